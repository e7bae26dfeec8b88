package hearth

import (
	"fmt"
	"math/rand"
	"strings"
)

// grower makes scripts without a rule.
type grower struct{ *rand.Rand }

// of is one of some words.
func (g grower) of(list ...string) string { return list[g.Intn(len(list))] }

// pieces leave the stack as it was; the locals are any value, a weak pair, an ephemeron; the globals any value, a table, a continuation or a closure.
var pieces = []string{
	"local 0;fix 2;cons;setlocal 0", "fix 1;fix 2;cons;setlocal 0", "fix 3;setlocal 0", "local 0;out;pop", "local 0;setglobal 0", "global 0;setlocal 0", "fix 60;local 0;vector;global 0;cons;setglobal 0", "local 0;global 0;cons;setglobal 0", "local 0;car;setlocal 0",
	"local 0;imm void;weakcons;setlocal 1", "local 1;weakcar;out;pop", "local 1;weakcar;setlocal 0", "fix 1;fix 2;cons;local 0;weakcons;setlocal 1",
	"local 0;local 1;eph;setlocal 2", "local 2;ephkey;out;pop", "local 2;ephval;pop", "fix 1;fix 2;cons;fix 3;eph;setlocal 2",
	"global 1;local 0;local 1;tableput;pop", "global 1;fix 1;box;fix 5;tableput;pop", "global 1;local 0;imm nil;tableget;out;pop", "global 1;local 0;tabledel;pop", "global 1;tablecount;out;pop", "table;setglobal 1",
	"fix 40;local 0;vector;setlocal 0", "fix 5;local 0;vector;pop", "text 0;out;pop", "text 0;text 1;texteq;pop", "flo 0x3ff8000000000000;tofix;out;pop", "char 'x';setlocal 0",
	"closure 1;local 0;call 1;setlocal 0", "closure 1;callcc;out;pop", "closure 2;callcc;pop", "local 0;closure 3;call 0;out;pop", "local 0;box;setlocal 0",
	"local 0;kind;fix 6;less;branch +2;fix 1;pop", "local 0;not;pop",
}

// rare ones end a run, or make a program that is rejected.
var rare = []string{"fix 1;fix 0;quot;pop", "fix 7;error", "local 0;halt", "pop", "jump 9999", "global 3;pop", "closure 2;setglobal 2", "fix 1", "fix 5000;fix 1;vector;pop", "foo", "local 9;pop", "local 0;fix 1;add;setlocal 0", "text 0;local 0;vectorlen;pop"}

// code are the lines of a program's text.
func (g grower) code() []string {
	list := split("globals 4;text \"ab\\n\";text \"\";func 0 3 0;imm nil;setlocal 0;table;setglobal 1;imm nil;setglobal 0;imm nil;imm nil;weakcons;setlocal 1;imm nil;imm nil;eph;setlocal 2;again:")
	for i := range 1 + g.Intn(25) {
		piece := pieces[g.Intn(len(pieces))]
		if g.Intn(60) == 0 {
			piece = rare[g.Intn(len(rare))]
		}
		piece = strings.ReplaceAll(piece, "branch +2", fmt.Sprintf("branch b%d", i)) + fmt.Sprintf(";b%d:", i)
		list = append(list, split(piece)...)
	}
	list = append(list, g.of("jump again", "jump again", "jump again", "local 0;halt", "local 0;return", "local 0;return", ""))
	return append(strings.Split(strings.Join(list, ";"), ";"), split("func 1 1 0;local 0;setglobal 2;local 0;return;func 1 1 0;local 0;imm true;call 1;return;func 0 0 1;captured 0;return")...)
}

func (g grower) name() string { return g.of("a", "a", "a", "b", "b", "cc") }

// program are the lines of a program, with what means nothing between.
func (g grower) program(name string) string {
	var t strings.Builder
	t.WriteString("program " + name + "\n")
	for _, line := range g.code() {
		t.WriteString("|" + line + "\n")
		if g.Intn(40) == 0 {
			t.WriteString(g.of("", "#", "# fix 5", "#|fix 5", "\n") + "\n")
		}
	}
	return t.String()
}

// number is one from 0 on, near what runs come to.
func (g grower) number(most int) string {
	return fmt.Sprint(g.Intn(1 + g.Intn(most)))
}

// setting is a line that sets something, or clears it.
func (g grower) setting() string {
	switch g.Intn(10) {
	case 0, 1:
		return "pages " + g.of("5", "6", "6", "7", "8", "9", "12", "40", g.number(9))
	case 2, 3:
		return "fuel " + g.number(600)
	case 4, 5:
		line := "force"
		for range 1 + g.Intn(6) {
			line += " " + g.number(300)
		}
		return line
	case 6, 7, 8:
		return "poke " + g.number(120) + " " + g.of(g.number(400), fmt.Sprint(64*g.Intn(6)), fmt.Sprint(64*g.Intn(3)+g.Intn(9))) + " " + g.of("0", "0", "8", "-8", "5", "2", "26", "1025", "-9223372036854775808", fmt.Sprint(g.Intn(600)*8+1), fmt.Sprint(g.Intn(600)*8+4))
	}
	return g.of("clear", "poke 5 0 0", "fuel 400", "fuel 400")
}

// wrong is a line that is none, or no more than nearly.
func (g grower) wrong() string {
	return g.of("x", " ", "run", "run z", "run  a", "run a ", " run a", "pages -1", "fuel 01", "force", "force 1 x", "poke 1 2", "poke 1 2 -0", "clear a", "program A", "program", "|fix 5", "|", "Run a", "\x00", "é", "pages 9223372036854775808", "list a b", "force 3  4", "same\ta")
}

// line is a line behind the programs.
func (g grower) line() string {
	switch g.Intn(20) {
	case 0:
		return g.wrong()
	case 1:
		return g.of("", "#", "# run a")
	case 2, 3, 4, 5, 6, 7:
		return g.setting()
	}
	return g.of("code", "list", "run", "run", "run", "model", "model", "same", "same", "heap", "heap", "value") + " " + g.name()
}

// script is a script of some programs and some lines.
func (g grower) script() string {
	text := "fuel " + g.of("400", g.number(600)) + "\npages " + g.of("6", "7", "8", "10", "64") + "\n" + g.program(g.name())
	for range 1 + g.Intn(3) {
		for range g.Intn(8) {
			text += g.line() + "\n"
		}
		if g.Intn(3) == 0 {
			text += g.program(g.name())
		}
	}
	if g.Intn(3) == 0 {
		return strings.TrimSuffix(text, "\n")
	}
	return text
}

// marred is a text with one place turned.
func (g grower) marred(text string) string {
	if text == "" {
		return text
	}
	at := g.Intn(len(text))
	list := strings.SplitAfter(text, "\n")
	i, j := g.Intn(len(list)), g.Intn(len(list))
	switch g.Intn(6) {
	case 0:
		return text[:at] + text[at+1:]
	case 1:
		return text[:at] + g.of(" ", "\n", "|", "#", "0", "-", "a", "\t", "\r", "\xff") + text[at:]
	case 2:
		return text[:at] + string([]byte{byte(g.Intn(256))}) + text[at+1:]
	case 3:
		return text[:at]
	case 4:
		list[i], list[j] = list[j], list[i]
	default:
		list[i] += list[j]
	}
	return strings.Join(list, "")
}
