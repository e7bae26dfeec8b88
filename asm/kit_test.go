package asm

import (
	"fmt"
	"testing"

	"hearth/api"
)

// head is the line of a function without parameters, locals and captures.
const head = "func 0 0 0\n"

// one is a program of one function of these instructions.
func one(list ...api.Ins) api.Program { return api.Program{Funcs: []api.Func{{Code: list}}} }

// op is an instruction, with its operand, if it has one.
func op(n int, a ...int) api.Ins {
	in := api.Ins{Op: n}
	if len(a) > 0 {
		in.A = a[0]
	}
	return in
}

// short tells of a long text its beginning alone.
func short(text string) string {
	return fmt.Sprintf("%q (%d bytes)", text[:min(len(text), 120)], len(text))
}

// answers tells a fault, if Assemble answers otherwise.
func answers(t testing.TB, promise, text string, want api.Program, line int, errno api.Errno) {
	t.Helper()
	if p, l, e := Assemble(text); l != line || e != errno || !alike(p, want) {
		t.Errorf("%s: Assemble(%s) = %s, %d, %v; want %s, %d, %v", promise, short(text), brief(p), l, e, brief(want), line, errno)
	}
}

// brief tells of a program its beginning alone.
func brief(p api.Program) string { return short(fmt.Sprint(p)) }

// says tells a fault, if a text is not that program.
func says(t testing.TB, promise, text string, want api.Program) {
	t.Helper()
	answers(t, promise, text, want, 0, api.OK)
}

// wrongAt tells a fault, if a text is not refused at that line.
func wrongAt(t testing.TB, promise string, line int, text string) {
	t.Helper()
	answers(t, promise, text, api.Program{}, line, api.ErrLine)
}

// misshapen tells a fault, if a text's program is not refused for its form.
func misshapen(t testing.TB, promise, text string) {
	t.Helper()
	answers(t, promise, text, api.Program{}, 0, api.ErrForm)
}

// tooLong tells a fault, if a text is not refused for what it has too much of.
func tooLong(t testing.TB, promise, text string) {
	t.Helper()
	answers(t, promise, text, api.Program{}, 0, api.ErrLong)
}

// plainly tells a fault, if Assemble answers otherwise than the chapter's words; whether it took the text is told.
func plainly(t testing.TB, promise, text string) bool {
	t.Helper()
	p, line, errno := plainAssemble(text)
	answers(t, promise, text, p, line, errno)
	return errno == api.OK
}

// prints tells a fault, if Print answers otherwise, or turns what it is given.
func prints(t testing.TB, promise string, p api.Program, want string, errno api.Errno) {
	t.Helper()
	kept := clone(p)
	if text, e := Print(p); text != want || e != errno {
		t.Errorf("%s: Print(%s) = %s, %v; want %s, %v", promise, brief(p), short(text), e, short(want), errno)
	}
	if !alike(p, kept) {
		t.Errorf("%s: Print has turned the program", promise)
	}
}

// thereAndBack tells a fault, if a program's text is not as the chapter has it, or is not that program again.
func thereAndBack(t testing.TB, promise string, p api.Program) {
	t.Helper()
	want, errno := plainPrint(p)
	prints(t, promise, p, want, errno)
	if errno == api.OK {
		says(t, promise, want, p)
	}
}
