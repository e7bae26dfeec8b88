package hearth

import (
	"fmt"
	"strings"
	"testing"
)

// lines are lines, each with its end.
func lines(list ...string) string {
	if len(list) == 0 {
		return ""
	}
	return strings.Join(list, "\n") + "\n"
}

// named is a program's lines, as a script has them.
func named(name string, code ...string) string {
	return lines("program "+name) + body(code...)
}

// body are lines of a program, as a script has them.
func body(code ...string) string {
	var t strings.Builder
	for _, line := range code {
		t.WriteString("|" + line + "\n")
	}
	return t.String()
}

// main is a program of one function without locals: its instructions stand in one text, with ; between.
func main(name, code string) string { return named(name, split("func 0 0 0;"+code)...) }

func split(code string) []string { return strings.Split(code, ";") }

// short is of a long text its beginning alone.
func short(text string) string {
	return fmt.Sprintf("%q (%d bytes)", text[:min(len(text), 400)], len(text))
}

// plays tells a fault, if Play tells otherwise.
func plays(t testing.TB, promise, text, want string) {
	t.Helper()
	if told := Play(text); told != want {
		t.Errorf("%s: Play(%s) = %s; want %s", promise, short(text), short(told), short(want))
	}
}

// plainly tells a fault, if Play tells otherwise than the chapter's words; what it has told is told.
func plainly(t testing.TB, promise, text string) string {
	t.Helper()
	want := plainPlay(text)
	plays(t, promise, text, want)
	return want
}

// refuses tells a fault, unless each of the lines is refused, alone, and beside programs and settings that it must leave alone.
func refuses(t testing.TB, promise string, list ...string) {
	t.Helper()
	const probes = "run p\nheap p\nsame p\nrun q\nrun r\n"
	ahead := main("p", "fix 5;return") + main("q", "fix 6;return") + "pages 3\nfuel 7\nforce 1\npoke 0 191 8\n"
	want := Play(ahead + probes)
	for _, line := range list {
		plays(t, promise, line, "error 100\n")
		plays(t, promise, line+"\n", "error 100\n")
		plays(t, promise, ahead+line+"\n"+probes, "error 100\n"+want)
	}
}
