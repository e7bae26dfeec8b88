package asm

import (
	"fmt"
	"strings"
	"testing"

	"hearth/api"
	"hearth/code"
)

// The errors are looked for in their order: a text too long ahead of its lines, these ahead of the form, that ahead of the program's bytes.
func TestP2505Order(t *testing.T) {
	const wrongLine, wrongForm = "x\n", "func 9 0 0\n"
	long := strings.Repeat(" ", 1<<20)
	many := strings.Repeat("\n", 100000)
	large := strings.Repeat("text \""+strings.Repeat("a", 4096)+"\"\n", 16)
	for _, text := range []string{long + "\n", many + "\n", many + " ", many + wrongLine, long + wrongLine, wrongLine + many, head + long, head + many, wrongForm + many, large + head + many} {
		tooLong(t, "P2505", text)
	}
	wrongAt(t, "P2505", 100000, many[1:]+wrongLine)
	wrongAt(t, "P2505", 1, wrongLine+many[1:])
	wrongAt(t, "P2505", 2, wrongForm+wrongLine)
	wrongAt(t, "P2505", 1, wrongLine+wrongForm)
	wrongAt(t, "P2505", 18, large+head+wrongLine)
	wrongAt(t, "P2505", 1, wrongLine+large+head)
	wrongAt(t, "P2505", 1, wrongLine)
	misshapen(t, "P2505", large+wrongForm)
	misshapen(t, "P2505", large+head+wrongForm)
	misshapen(t, "P2505", large)
	tooLong(t, "P2505", large+head)
	tooLong(t, "P2505", large+head+"imm 5\njump 9\n"+head)
}

// At just as many bytes and lines as a text may have it is read.
func TestP2505Limits(t *testing.T) {
	fill := func(text string, n int) string { return text + strings.Repeat(" ", n-len(text)) }
	says(t, "P2505", fill(head+"pop\n", 1<<20), one(op(api.OpPop)))
	says(t, "P2505", fill(head+"pop\n", 1<<20-1)+"\n", one(op(api.OpPop)))
	tooLong(t, "P2505", fill(head+"pop\n", 1<<20+1))
	tooLong(t, "P2505", fill(head+"pop\n", 1<<20)+"\n")
	for _, ahead := range []string{head + "pop\n", head + "pop\n;"} {
		rest := 100000 - 2
		says(t, "P2505", ahead+strings.Repeat("\n", rest), one(op(api.OpPop)))
		says(t, "P2505", ahead+strings.Repeat("\n", rest-1)+" ", one(op(api.OpPop)))
	}
	tooLong(t, "P2505", head+"pop\n"+strings.Repeat("\n", 99999))
	tooLong(t, "P2505", head+"pop\n"+strings.Repeat("\n", 99998)+";")
	misshapen(t, "P2505", strings.Repeat("\n", 100000))
	tooLong(t, "P2505", strings.Repeat("\n", 100001))
	misshapen(t, "P2505", strings.Repeat(" ", 1<<20))
	tooLong(t, "P2505", strings.Repeat(" ", 1<<20+1))
}

// A program of just MaxProgram bytes is taken, one of a byte more is not.
func TestP2505ProgramBytes(t *testing.T) {
	for _, more := range []int{-2, -1, 0, 1, 2} {
		p := api.Program{Funcs: make([]api.Func, 17)}
		for i := range p.Funcs {
			for range 4000 {
				p.Funcs[i].Code = append(p.Funcs[i].Code, op(api.OpPop))
			}
		}
		last := &p.Funcs[16]
		last.Code = last.Code[:4000-len(bytesOf(p))%65536+more]
		text := textOf(p)
		if more <= 0 {
			if n := len(bytesOf(p)); n != 65536+more {
				t.Fatalf("%d bytes", n)
			}
			says(t, "P2505", text, p)
			prints(t, "P2506", p, text, api.OK)
		} else {
			tooLong(t, "P2505", text)
			prints(t, "P2506", p, "", api.ErrLong)
		}
	}
}

// bytesOf are a program's bytes; too many are told by as many as there would be.
func bytesOf(p api.Program) []byte {
	b := []byte{0x68, 0x74, 0x68, 1, 0, 0, byte(len(p.Funcs))}
	if short, errno := code.Write(p); errno == api.OK {
		return short
	}
	for _, f := range p.Funcs {
		b = append(b, make([]byte, 5+len(f.Code))...)
	}
	return b
}

// textOf is the text of a program of functions that pop alone.
func textOf(p api.Program) string {
	var text strings.Builder
	for _, f := range p.Funcs {
		text.WriteString(head + strings.Repeat("\tpop\n", len(f.Code)))
	}
	return text.String()
}

// What is a decimal number, but out of the program's ranges, is the form's.
func TestP2505Form(t *testing.T) {
	for _, text := range []string{
		"globals 65\n" + head, "func 9 0 0\n", "func 0 65 0\n", "func 0 0 65\n", head + "jump 2097152", head + "char 2097152", head + "imm 2097152", head + "text 2097152", head + "tail 2097152",
		strings.Repeat("text \"\"\n", 65) + head, "text \"" + strings.Repeat("a", 4097) + "\"\n" + head, strings.Repeat(head, 65), head + strings.Repeat("pop\n", 4097),
		"", "\n", ";", "globals 3", "text \"a\"\n", "globals 65\n", "text \"" + strings.Repeat("a", 4097) + "\"\n",
	} {
		misshapen(t, "P2505", text)
	}
	for _, text := range []string{
		"globals 64\n" + head, "func 8 64 64\n", strings.Repeat("text \"\"\n", 64) + head, "text \"" + strings.Repeat(`\x00`, 4096) + "\"\n" + head, strings.Repeat(head, 64), head + strings.Repeat("pop\n", 4096),
		head + "jump 2097151", "func 8 0 0\nlocal 64\nimm 9\nchar 55296\ntext 1\njump 7\n",
	} {
		if !plainly(t, "P2505", text) {
			t.Errorf("P2505: %s is refused", short(text))
		}
	}
}

// Of several wrong lines the least is told, jumps without their labels among them.
func TestP2505LeastLine(t *testing.T) {
	wrongAt(t, "P2505", 2, head+"jump a\njump b\njump c\n")
	wrongAt(t, "P2505", 3, head+"jump a\njump b\na:\njump c\n")
	wrongAt(t, "P2505", 3, head+"jump a\njump b\njump c\na:\nc:\n")
	wrongAt(t, "P2505", 4, head+"jump a\njump a\njump b\na:\njump b\n")
	wrongAt(t, "P2505", 2, head+"jump a\nbranch a\njump a\n")
	wrongAt(t, "P2505", 2, head+"jump a\n"+head+"x\n")
	wrongAt(t, "P2505", 3, head+"jump a\nx\na:\n")
	wrongAt(t, "P2505", 2, head+"x\njump a\n")
	wrongAt(t, "P2505", 4, head+"pop\n"+head+"jump a\n"+head+"a:\njump b\n")
	wrongAt(t, "P2505", 2, head+"jump a\n"+head+"jump b\na:\n")
	wrongAt(t, "P2505", 4, head+"jump a\na:\njump b\n"+head+"b:\n")
	wrongAt(t, "P2505", 1, "x\ny\n"+head)
	wrongAt(t, "P2505", 1, "jump a\n"+head+"a:\n")
	for n := range 30 {
		text := head
		for i := range 30 {
			text += fmt.Sprintf("branch l%d\n", i)
		}
		for i := range 30 {
			if i != n && i != 29 {
				text += fmt.Sprintf("l%d:\n", i)
			}
		}
		wrongAt(t, "P2505", min(n, 29)+2, text)
	}
}

// A wrong line says nothing: to all others it is as if it were empty.
func TestP2505WrongLinesSayNothing(t *testing.T) {
	wrongAt(t, "P2505", 2, head+"jump a\na: pop\n")               // no label
	wrongAt(t, "P2505", 2, head+"jump a\na: x\n")                 // no label
	wrongAt(t, "P2505", 3, head+"jump a\nfunc 0 0\na:\n")         // no function: the label is the first one's
	wrongAt(t, "P2505", 3, head+"jump a\nfunc 0 0 00\na:\n")      // nor here
	wrongAt(t, "P2505", 3, head+"jump a\nfunc 0 0 0 0\na:\n")     // nor here
	wrongAt(t, "P2505", 3, head+"jump a\nfunc 0 0 0 \"\na:\n")    // nor here
	wrongAt(t, "P2505", 2, head+"jump a\nfunc 0 0 9999\na:\n")    // a function, if for the form alone
	wrongAt(t, "P2505", 3, head+"jump a\na: 1\na:\n")             // no label twice
	wrongAt(t, "P2505", 3, head+"jump a\nx\nglobals 1\ny\nz\na:") // the label stands all the same
	wrongAt(t, "P2505", 1, "globals x\nglobals 1\n"+head)         // the second one is right, and tells nothing
	wrongAt(t, "P2505", 1, "func 0 0\nglobals 1\ntext \"a\"\n")   // as are these
	wrongAt(t, "P2505", 1, "text 'a'\nglobals 1\n"+head+"jump a") // as is this one
	wrongAt(t, "P2505", 2, head+"jump a\nx\n"+strings.Repeat("\n", 50)+"b:\n")
	wrongAt(t, "P2505", 4, head+"a:\njump b\nx\nb:\njump c\n")
}

// Print tells the errors of code.Write.
func TestP2506Errors(t *testing.T) {
	for _, p := range []api.Program{
		{}, {Globals: 65, Funcs: make([]api.Func, 1)}, {Globals: -1, Funcs: make([]api.Func, 1)}, {Funcs: make([]api.Func, 65)}, {Funcs: []api.Func{{Params: -1}}}, {Funcs: []api.Func{{Locals: 65}}}, {Funcs: []api.Func{{Captures: least}}},
		{Texts: make([][]byte, 65), Funcs: make([]api.Func, 1)}, {Texts: [][]byte{make([]byte, 4097)}, Funcs: make([]api.Func, 1)},
		one(op(0)), one(op(-1)), one(op(23)), one(op(29)), one(op(76)), one(op(greatest)), one(op(least)), one(op(api.OpPop, 1)), one(op(api.OpJump, -1)), one(op(api.OpJump, 2097152)), one(op(api.OpImm, -1)), one(op(api.OpChar, least)), one(op(api.OpFix, 1<<60)), one(op(api.OpFix, leastFix-1)),
		one(make([]api.Ins, 4097)...), one(append(make([]api.Ins, 100), op(api.OpPop))...),
	} {
		prints(t, "P2506", p, "", api.ErrForm)
	}
	long := api.Program{Texts: make([][]byte, 17), Funcs: make([]api.Func, 1)}
	for i := range long.Texts {
		long.Texts[i] = make([]byte, 4096)
	}
	prints(t, "P2506", long, "", api.ErrLong)
	long.Funcs[0].Code = []api.Ins{op(0)}
	prints(t, "P2506", long, "", api.ErrForm)
}

func TestP2506Lines(t *testing.T) {
	prints(t, "P2506", one(), "func 0 0 0\n", api.OK)
	prints(t, "P2506", api.Program{Globals: 64, Funcs: make([]api.Func, 2)}, "globals 64\nfunc 0 0 0\nfunc 0 0 0\n", api.OK)
	prints(t, "P2506", api.Program{
		Globals: 3,
		Texts:   [][]byte{{}, []byte("a"), {0, 31, 127, 128, 255, 9, 10, 13, 32, 126, '"', '\'', '\\', ';'}},
		Funcs:   []api.Func{{Params: 1, Locals: 2, Captures: 4, Code: []api.Ins{op(api.OpOut)}}, {}, {Params: 8, Locals: 7, Captures: 6, Code: []api.Ins{op(api.OpCons), op(api.OpText, 2)}}},
	}, "globals 3\ntext \"\"\ntext \"a\"\ntext \"\\x00\\x1f\\x7f\\x80\\xff\\t\\n\\x0d ~\\\"'\\\\;\"\nfunc 1 2 4\n\tout\nfunc 0 0 0\nfunc 8 7 6\n\tcons\n\ttext 2\n", api.OK)
	prints(t, "P2506", api.Program{Texts: [][]byte{[]byte("é")}, Funcs: make([]api.Func, 1)}, "text \"\\xc3\\xa9\"\nfunc 0 0 0\n", api.OK)
}

// Each byte by itself, and among others.
func TestP2506Texts(t *testing.T) {
	for b := range 256 {
		want := string([]byte{byte(b)})
		switch {
		case b == 9:
			want = `\t`
		case b == 10:
			want = `\n`
		case b == '"' || b == '\\':
			want = `\` + want
		case b < 32 || b > 126:
			want = fmt.Sprintf(`\x%x%x`, b/16, b%16)
		}
		p := api.Program{Texts: [][]byte{{byte(b)}, {'a', byte(b), byte(b), '0'}}, Funcs: make([]api.Func, 1)}
		prints(t, "P2506", p, "text \""+want+"\"\ntext \"a"+want+want+"0\"\n"+head, api.OK)
		thereAndBack(t, "P2507", p)
	}
}

// printed tells a fault, if an instruction by itself is not printed so.
func printed(t *testing.T, n, a int, want string) {
	t.Helper()
	prints(t, "P2506", one(op(n, a)), head+"\t"+want+"\n", api.OK)
	says(t, "P2507", head+"\t"+want+"\n", one(op(n, a)))
}

func TestP2506Operands(t *testing.T) {
	for n := range 300 {
		want := fmt.Sprintf("%c", n)
		switch {
		case n == '\'' || n == '\\':
			want = `\` + want
		case n < 32 || n > 126:
			printed(t, api.OpChar, n, fmt.Sprintf("char %d", n))
			continue
		}
		printed(t, api.OpChar, n, "char '"+want+"'")
	}
	printed(t, api.OpChar, 2097151, "char 2097151")
	printed(t, api.OpChar, 256+'a', "char 353")
	printed(t, api.OpChar, 1<<16+'a', "char 65633")
	for n, want := range []string{"nil", "false", "true", "void", "broken", "unbound", "6", "7"} {
		printed(t, api.OpImm, n, "imm "+want)
	}
	printed(t, api.OpImm, 2097151, "imm 2097151")
	for a, want := range map[int]string{0: "0", 1: "1", -1: "-1", mostFix: "1152921504606846975", leastFix: "-1152921504606846976", 100: "100", -10: "-10"} {
		printed(t, api.OpFix, a, "fix "+want)
	}
	for a, want := range map[int]string{0: "0000000000000000", 1: "0000000000000001", -1: "ffffffffffffffff", least: "8000000000000000", greatest: "7fffffffffffffff", 0x0123456789abcdef: "0123456789abcdef", 4607182418800017408: "3ff0000000000000", -0x10: "fffffffffffffff0"} {
		printed(t, api.OpFlo, a, "flo 0x"+want)
	}
	for n := range 76 {
		name := plainName(n)
		if name == "" {
			continue
		}
		switch plainSort(n) {
		case 'n':
			printed(t, n, 0, name+" 0")
			printed(t, n, 65, name+" 65")
			printed(t, n, 2097151, name+" 2097151")
		case 'j':
			printed(t, n, 1, name+" 1")
			printed(t, n, 2097151, name+" 2097151")
		case '.':
			printed(t, n, 0, name)
		}
	}
}

// A label stands ahead of each instruction to which a jump goes, once, and nowhere else.
func TestP2506Labels(t *testing.T) {
	for _, name := range []string{"jump", "branch"} {
		j := opsList[name]
		prints(t, "P2506", one(op(j, 0)), head+"L0:\n\t"+name+" L0\n", api.OK)
		prints(t, "P2506", one(op(j, 1)), head+"\t"+name+" 1\n", api.OK)
		prints(t, "P2506", one(op(j, 2), op(j, 2), op(j, 2)), head+"\t"+name+" L2\n\t"+name+" L2\nL2:\n\t"+name+" L2\n", api.OK)
		prints(t, "P2506", one(op(j, 2), op(j, 0), op(j, 3)), head+"L0:\n\t"+name+" L2\n\t"+name+" L0\nL2:\n\t"+name+" 3\n", api.OK)
		for at := range 8 {
			for to := range 10 {
				p := one(make([]api.Ins, 8)...)
				want := head
				for i := range p.Funcs[0].Code {
					p.Funcs[0].Code[i] = op(api.OpDup)
					if i == to {
						want += fmt.Sprintf("L%d:\n", i)
					}
					switch {
					case i != at:
						want += "\tdup\n"
					case to < 8:
						want += fmt.Sprintf("\t%s L%d\n", name, to)
					default:
						want += fmt.Sprintf("\t%s %d\n", name, to)
					}
				}
				p.Funcs[0].Code[at] = op(j, to)
				prints(t, "P2506", p, want, api.OK)
				says(t, "P2507", want, p)
			}
		}
	}
	prints(t, "P2506", api.Program{Funcs: []api.Func{
		{Code: []api.Ins{op(api.OpJump, 1)}},
		{Code: []api.Ins{op(api.OpPop), op(api.OpBranch, 1)}},
		{Code: []api.Ins{op(api.OpClosure, 0), op(api.OpCall, 0), op(api.OpFix, 0)}},
	}}, "func 0 0 0\n\tjump 1\nfunc 0 0 0\n\tpop\nL1:\n\tbranch L1\nfunc 0 0 0\n\tclosure 0\n\tcall 0\n\tfix 0\n", api.OK)
}
