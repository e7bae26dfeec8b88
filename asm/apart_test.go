package asm

import (
	"fmt"
	"math/rand"
	"runtime/debug"
	"slices"
	"strings"
	"sync"
	"testing"
	"time"

	"hearth/api"
)

// grower makes texts and programs without a rule.
type grower struct{ *rand.Rand }

// of is one of some words.
func (g grower) of(list ...string) string { return list[g.Intn(len(list))] }

// number is one that can be written, near the edges as often as far from them.
func (g grower) number(sort byte) int {
	n := int(g.Uint64()) >> g.Intn(64)
	switch sort {
	case 'f':
		return max(leastFix, min(mostFix, n))
	case 'b':
		return n
	case 'i':
		return g.Intn(8)
	case 'c':
		return g.Intn(140)
	}
	return max(0, min(2097151, n))
}

// instruction is one that can be written, in a function of so many.
func (g grower) instruction(many int) api.Ins {
	n := 1 + g.Intn(75)
	for plainName(n) == "" {
		n = 1 + g.Intn(75)
	}
	switch sort := plainSort(n); {
	case sort == '.':
		return op(n)
	case sort == 'j' && g.Intn(4) > 0:
		return op(n, g.Intn(many+1))
	case g.Intn(8) == 0:
		return op(n, g.number('n'))
	default:
		return op(n, g.number(sort))
	}
}

// program is one that can be written.
func (g grower) program() api.Program {
	p := api.Program{Globals: g.Intn(65) * g.Intn(2), Funcs: make([]api.Func, 1+g.Intn(4))}
	for range g.Intn(4) {
		text := make([]byte, g.Intn(12))
		g.Read(text)
		p.Texts = append(p.Texts, text)
	}
	for i := range p.Funcs {
		p.Funcs[i] = api.Func{Params: g.Intn(9), Locals: g.Intn(65), Captures: g.Intn(65)}
		many := g.Intn(20)
		for range many {
			p.Funcs[i].Code = append(p.Funcs[i].Code, g.instruction(many))
		}
	}
	return p
}

// gap is what may stand between words.
func (g grower) gap() string { return g.of(" ", " ", " ", "\t", "  ", " \t ") }

// tail is what may stand behind the words of a line.
func (g grower) tail() string {
	return g.of("", "", "", "", " ", "\t", ";", " ; remark", ";\"", " ;'x \\") + "\n"
}

// quote is a right one, for the most part.
func (g grower) quote(sign string, most int) string {
	q := sign
	for range g.Intn(most + 1) {
		q += g.of("a", "Z", "0", " ", ";", "é", "\u2028", "\U0001f600", `\\`, `\"`, `\'`, `\n`, `\t`, `\x41`, `\xff`, `\xc3\xa9`, "\xff", "\t", `"`, `'`)
		if g.Intn(30) == 0 {
			q += g.of(`\`, `\q`, `\x4`, `\xG0`, sign)
		}
	}
	return q + sign
}

// decimal is a right one, for the most part.
func (g grower) decimal() string {
	return g.of("0", "1", "2", "3", "5", "8", "8", "64", "2097151", fmt.Sprint(g.number('n')), fmt.Sprint(g.Intn(9)), fmt.Sprint(g.Intn(9)), fmt.Sprint(g.Intn(9)), fmt.Sprint(g.Intn(9)), g.of("01", "-1", "65", "2097152", "9223372036854775807", "9223372036854775808", "x", ""))
}

func (g grower) name() string { return g.of("a", "b", "c", "d", "L1", "_x") }

// instructionLine is a right one, for the most part.
func (g grower) instructionLine() string {
	in := g.instruction(9)
	word := plainName(in.Op)
	if g.Intn(60) == 0 {
		return word + g.gap() + g.decimal()
	}
	switch plainSort(in.Op) {
	case '.':
		return word
	case 'f':
		word += g.gap() + g.of("", "", "-") + g.of("1", "7", fmt.Sprint(in.A), fmt.Sprint(g.Intn(100)))
	case 'b':
		word += g.gap() + fmt.Sprintf("0x%016x", uint64(in.A))
	case 'c':
		word += g.gap() + g.of(g.quote("'", 1), "'a'", "';'", "'é'", "' '", g.decimal())
	case 'i':
		word += g.gap() + g.of(g.of(plainImms...), g.of(plainImms...), g.of(plainImms...), g.decimal(), "nul")
	case 'j':
		word += g.gap() + g.of(g.name(), g.name(), g.name(), g.decimal())
	default:
		word += g.gap() + g.decimal()
	}
	return word
}

// line is a line of a function, right for the most part.
func (g grower) line() string {
	switch g.Intn(10) {
	case 0, 1:
		return g.name() + ":"
	case 2:
		return ""
	case 3:
		if g.Intn(6) == 0 {
			return g.of("foo", "globals 1", "text \"a\"", "a :", ":", "1:", "\"", "pop pop", "pop\r", "func 0 0", "\xff", "Pop", "a: pop")
		}
	}
	return g.instructionLine()
}

// text is one of lines, as many of them right as wrong.
func (g grower) text() string {
	var t strings.Builder
	put := func(words ...string) {
		t.WriteString(g.of("", "", "\t", " ") + strings.Join(words, g.gap()) + g.tail())
	}
	if g.Intn(2) == 0 {
		put("globals", g.decimal())
	}
	for range g.Intn(3) {
		put("text", g.quote(`"`, 5))
	}
	for range 1 + g.Intn(3) {
		put("func", fmt.Sprint(g.Intn(9)), fmt.Sprint(g.Intn(9)), g.decimal())
		for range g.Intn(8) {
			put(g.line())
		}
		if g.Intn(3) > 0 { // what jumps wanted
			for _, name := range []string{"a", "b", "c", "d", "L1", "_x"} {
				if !strings.Contains(t.String(), name+":") {
					put(name + ":")
				}
			}
		}
	}
	return t.String()
}

// marred is a text with one place turned.
func (g grower) marred(text string) string {
	if text == "" {
		return text
	}
	at := g.Intn(len(text))
	lines := strings.SplitAfter(text, "\n")
	i, j := g.Intn(len(lines)), g.Intn(len(lines))
	switch g.Intn(6) {
	case 0:
		return text[:at] + text[at+1:]
	case 1:
		return text[:at] + g.of("\"", "'", "\\", ";", "\n", " ", ":", "0", "\xff", "é", "-", "\t") + text[at:]
	case 2:
		return text[:at] + string([]byte{byte(g.Intn(256))}) + text[at+1:]
	case 3:
		return text[:at]
	case 4:
		lines[i], lines[j] = lines[j], lines[i]
	default:
		lines[i] = lines[i] + lines[j]
	}
	return strings.Join(lines, "")
}

// Texts without a rule, right ones and wrong ones, against the chapter's words.
func TestP2505AnyText(t *testing.T) {
	g := grower{rand.New(rand.NewSource(1))}
	told := map[api.Errno]int{}
	for range 20000 {
		text := g.text()
		for range 2 {
			p, line, errno := plainAssemble(text)
			answers(t, "P2505", text, p, line, errno)
			told[errno]++
			if errno == api.OK {
				thereAndBack(t, "P2507", p)
			}
			text = g.marred(text)
		}
		if t.Failed() {
			return
		}
	}
	if told[api.OK] < 5000 || told[api.ErrLine] < 5000 || told[api.ErrForm] < 1000 {
		t.Errorf("what was told: %v", told)
	}
}

// Bytes of all sorts in the place of words.
func TestP2505AnyBytes(t *testing.T) {
	g := grower{rand.New(rand.NewSource(2))}
	for range 50000 {
		text := head
		for range g.Intn(12) {
			text += g.of("\"", "'", "\\", ";", "\n", "\n", " ", " ", "\t", ":", "a", "0", "1", "-", "x", "pop", "text ", "char ", "fix ", "jump ", "é", "\xff", "\xc3", "\x00", "0x")
		}
		plainly(t, "P2505", text)
		plainly(t, "P2505", text[len(head):]+"\n"+head)
		if t.Failed() {
			return
		}
	}
}

func TestP2507ThereAndBack(t *testing.T) {
	g := grower{rand.New(rand.NewSource(3))}
	for range 20000 {
		p := g.program()
		thereAndBack(t, "P2507", p)
		text, _ := Print(p)
		if q, line, errno := Assemble(text); line != 0 || errno != api.OK || !alike(p, q) {
			t.Fatalf("P2507: %v comes back as %v, %d, %v", p, q, line, errno)
		}
	}
}

// The longest texts that programs have.
func TestP2507GreatPrograms(t *testing.T) {
	for _, in := range []api.Ins{op(api.OpSetWeakCdr), op(api.OpPop), op(api.OpImm, 5), op(api.OpSetGlobal, 127), op(api.OpCaptured, 2097151), op(api.OpFlo, -1), op(api.OpFix, leastFix), op(api.OpBranch, 4000), op(api.OpJump, 0)} {
		p := api.Program{Globals: 64}
		size := len(bytesOf(one(in))) - len(bytesOf(one()))
		for n := 65000 / size; n > 0; n -= 4000 {
			p.Funcs = append(p.Funcs, api.Func{Params: 8, Locals: 64, Captures: 64, Code: slices.Repeat([]api.Ins{in}, min(n, 4000))})
		}
		thereAndBack(t, "P2507", p)
		if text, errno := Print(p); errno != api.OK || len(text) < 100000 {
			t.Errorf("P2507: %v: %s, %v", in, short(text), errno)
		}
	}
	var jumps []api.Ins // a label ahead of each
	for i := range 4000 {
		jumps = append(jumps, op(api.OpJump, 3999-i))
	}
	p := api.Program{Texts: slices.Repeat([][]byte{make([]byte, 1000)}, 5)}
	for range 5 {
		p.Funcs = append(p.Funcs, api.Func{Code: jumps})
	}
	thereAndBack(t, "P2507", p)
	thereAndBack(t, "P2507", api.Program{Texts: slices.Repeat([][]byte{make([]byte, 4090)}, 16), Funcs: make([]api.Func, 1)})
}

func TestP2508AgainAndAgain(t *testing.T) {
	const text = "globals 2\ntext \"a\"\nfunc 0 1 0\na:\njump b\nb:\njump a\n"
	p, _, _ := plainAssemble(text)
	for range 20 {
		says(t, "P2508", text, p)
		wrongAt(t, "P2508", 5, strings.Replace(text, "b:", "c:", 1))
		wrongAt(t, "P2508", 1, "jump a\n")
		misshapen(t, "P2508", "")
		tooLong(t, "P2508", strings.Repeat("\n", 100001))
		prints(t, "P2508", p, "globals 2\ntext \"a\"\nfunc 0 1 0\nL0:\n\tjump L1\nL1:\n\tjump L0\n", api.OK)
		prints(t, "P2508", api.Program{}, "", api.ErrForm)
	}
}

// Many labels that are wanted and not there: the least line is told each time.
func TestP2508NoOrderOfLabels(t *testing.T) {
	var text strings.Builder
	text.WriteString("\n\n" + head + "pop\n")
	for i := range 300 {
		fmt.Fprintf(&text, "jump l%d\n", i*7919%300)
	}
	for range 50 {
		wrongAt(t, "P2508", 5, text.String())
	}
}

func TestP2508SideBySide(t *testing.T) {
	good := make([]bool, 8)
	var all sync.WaitGroup
	for w := range good {
		all.Go(func() {
			g := grower{rand.New(rand.NewSource(int64(w)))}
			good[w] = true
			for range 1000 {
				p := g.program()
				want, _ := plainPrint(p)
				text, _ := Print(p)
				q, _, _ := Assemble(text)
				_, line, errno := Assemble("\n" + text + "\"")
				good[w] = good[w] && text == want && alike(p, q) && line == 2+strings.Count(text, "\n") && errno == api.ErrLine
			}
		})
	}
	all.Wait()
	if slices.Contains(good, false) {
		t.Errorf("P2508: side by side: %v", good)
	}
}

// What is answered is nobody else's, and the lists within share nothing.
func TestRule3NewMemory(t *testing.T) {
	const text = "text \"abc\"\ntext \"abc\"\n" + head + "pop\npop\n" + head + "pop\n"
	want, _, _ := plainAssemble(text)
	p, _, _ := Assemble(text)
	for i := range p.Texts {
		_ = append(p.Texts[i], 0xee, 0xee)
		_ = append(p.Funcs[i].Code, op(99), op(99))
	}
	if !alike(p, want) {
		t.Errorf("rule 3: the lists of a program share their room")
	}
	for i := range p.Texts {
		p.Texts[i][0] = 0xee
		p.Funcs[i].Code[0] = op(99)
	}
	says(t, "rule 3", text, want)
}

// What lies behind the ends of a program's lists is neither printed nor written.
func TestRule3SpareRoom(t *testing.T) {
	texts := append(make([][]byte, 0, 4), append(make([]byte, 0, 4), 'a'))
	funcs := append(make([]api.Func, 0, 4), api.Func{Code: append(make([]api.Ins, 0, 4), op(api.OpJump, 1))})
	prints(t, "rule 3", api.Program{Texts: texts, Funcs: funcs}, "text \"a\"\n"+head+"\tjump 1\n", api.OK)
	if texts[:4][1] != nil || texts[0][:4][1] != 0 || funcs[:4][1].Code != nil || funcs[0].Code[:4][1] != op(0) {
		t.Errorf("rule 3: Print has written into spare room")
	}
}

// soon makes a call on a stack on which nothing can be deep, and tells a fault, if it takes far longer than going a few times over the greatest text.
func soon(t *testing.T, call func()) {
	t.Helper()
	defer debug.SetMaxStack(debug.SetMaxStack(1 << 18))
	start := time.Now()
	call()
	if took := time.Since(start); took > 10*time.Second {
		t.Errorf("rule 1: it has taken %v", took)
	}
}

// The greatest texts of each sort of line, right ones and wrong ones.
func TestRule1GreatTexts(t *testing.T) {
	fill := func(ahead, with string, lines int) string {
		n := min((1<<20-len(ahead))/len(with), lines)
		return ahead + strings.Repeat(with, n)
	}
	soon(t, func() {
		wrongAt(t, "rule 1", 2, fill(head, "x\n", 99999))
		wrongAt(t, "rule 1", 2, fill(head, "jump a\n", 99999))
		wrongAt(t, "rule 1", 3, fill(head, "a:\n", 99999))
		wrongAt(t, "rule 1", 1, fill("", "x ", 1<<20))
		wrongAt(t, "rule 1", 1, fill("text \"", "\\", 1<<20))
		wrongAt(t, "rule 1", 1, fill("text \"", "\\\"", 1<<20))
		wrongAt(t, "rule 1", 1, fill("", "\"\" ", 1<<20))
		wrongAt(t, "rule 1", 1, fill("globals ", "9", 1<<20))
		wrongAt(t, "rule 1", 1, fill("globals 1", "0", 1<<20))
		wrongAt(t, "rule 1", 2, fill(head+"jump ", "a", 1<<20))
		wrongAt(t, "rule 1", 2, fill(head+"char '", "a", 1<<20-len(head)-8)+"'")
		misshapen(t, "rule 1", fill("", head, 100000))
		misshapen(t, "rule 1", fill(head, "pop\n", 99999))
		misshapen(t, "rule 1", fill(head+"a:\n", "jump a\n", 99998))
		misshapen(t, "rule 1", fill("", "text \"\"\n", 100000))
		misshapen(t, "rule 1", fill("text \"", `\x41`, 1<<18-2)+"\"\n")
		misshapen(t, "rule 1", fill(";", "\"", 1<<20))
		says(t, "rule 1", fill(head+";", "'", 1<<20), one())
		says(t, "rule 1", fill(head, "a", 1<<20-len(head)-1)+":", one())
		var many strings.Builder
		many.WriteString(head)
		for i := range 49999 {
			fmt.Fprintf(&many, "jump l%d\n", i)
		}
		for i := range 49999 {
			fmt.Fprintf(&many, "l%d:\n", i)
		}
		misshapen(t, "rule 1", many.String())
		wrongAt(t, "rule 1", 2, strings.Replace(many.String(), "l0:", "x", 1))
	})
}
