package asm

import (
	"strings"
	"testing"

	"hearth/api"
)

func TestExamples(t *testing.T) {
	says(t, "P2505", "func 0 0 0\n\tfix 5\n\treturn\n", one(op(api.OpFix, 5), op(api.OpReturn)))
	prints(t, "P2506", one(op(api.OpFix, 5), op(api.OpReturn)), "func 0 0 0\n\tfix 5\n\treturn\n", api.OK)
	p := api.Program{Globals: 1, Texts: [][]byte{{97, 0, 34}}, Funcs: []api.Func{{Code: []api.Ins{op(api.OpJump, 0)}}}}
	says(t, "P2505", "globals 1 ; one\n text \"a\\x00\\\"\" \nfunc 0 0 0\nagain: \n jump again", p)
	prints(t, "P2506", p, "globals 1\ntext \"a\\x00\\\"\"\nfunc 0 0 0\nL0:\n\tjump L0\n", api.OK)
	says(t, "P2505", "func 0 0 0\n char 'é'\n imm true\n flo 0x3ff0000000000000\n", one(op(api.OpChar, 233), op(api.OpImm, 2), op(api.OpFlo, 4607182418800017408)))
	wrongAt(t, "P2505", 1, "fix 5\n")
	wrongAt(t, "P2505", 1, "func 0 0\n")
	wrongAt(t, "P2505", 2, "globals 1\nglobals 1\n")
	wrongAt(t, "P2505", 2, "func 0 0 0\nfix 05\n")
	wrongAt(t, "P2505", 2, "func 0 0 0\nadd 1\n")
	wrongAt(t, "P2505", 2, "func 0 0 0\njump x\nfoo\n")
	misshapen(t, "P2505", "")
	misshapen(t, "P2505", "globals 65\nfunc 0 0 0\n")
}

// Lines are counted by their ends; the last one may want its own.
func TestP2501LineNumbers(t *testing.T) {
	for n := range 20 {
		for _, empty := range []string{"\n", " \n", "\t\n", " ;\n", "; x \" '\n", ";;\n"} {
			for _, last := range []string{"x", "x\n", "x\n\n", "x\n ", "x\ny", "x ;\n"} {
				wrongAt(t, "P2501", n+1, strings.Repeat(empty, n)+last)
				wrongAt(t, "P2501", n+2, strings.Repeat(empty, n)+head+last)
			}
			says(t, "P2501", strings.Repeat(empty, n)+head+"pop", one(op(api.OpPop)))
			says(t, "P2501", head+strings.Repeat(empty, n)+"pop\n", one(op(api.OpPop)))
			says(t, "P2501", head+"pop\n"+strings.Repeat(empty, n), one(op(api.OpPop)))
			says(t, "P2501", head+"pop\n"+strings.Repeat(empty, n)+" ", one(op(api.OpPop)))
		}
		misshapen(t, "P2501", strings.Repeat("\n", n))
	}
}

// No other byte ends a line, or is gone over ahead of words and between them.
func TestP2501Blanks(t *testing.T) {
	good := one(op(api.OpFix, 5), op(api.OpPop))
	for b := range 256 {
		c := string([]byte{byte(b)})
		for _, text := range []string{c + "fix 5\npop", "fix" + c + "5\npop", "fix 5" + c + "\npop", "fix 5\npop" + c, "fix 5" + c + c + "\npop\n" + c} {
			if c == " " || c == "\t" {
				says(t, "P2501", head+text, good)
			}
			plainly(t, "P2501", head+text)
		}
		if c != " " && c != "\t" && c != "\n" && c != ";" {
			wrongAt(t, "P2501", 2, head+c+"fix 5\npop")
			wrongAt(t, "P2501", 2, head+"fix"+c+"5\npop")
			if b < '0' || b > '9' {
				wrongAt(t, "P2501", 2, head+"fix 5"+c+"\npop")
			}
		}
	}
	for _, c := range []string{"\u0085", "\u00a0", "\u2003", "\u2028", "\u3000", "\ufeff", "\r"} {
		wrongAt(t, "P2501", 2, head+c+"fix 5\npop")
		wrongAt(t, "P2501", 2, head+"fix"+c+"5\npop")
		wrongAt(t, "P2501", 2, head+"fix 5"+c+"\npop")
	}
	says(t, "P2501", " \t func\t0  0\t \t0\t\n\t\tfix   5 \t \n \t \npop\t", good)
}

// A ; ends the line wherever a word may end, but for one in a quote.
func TestP2501Remarks(t *testing.T) {
	good := one(op(api.OpFix, 5), op(api.OpChar, 59), op(api.OpPop))
	for b := range 256 {
		if b == '\n' {
			continue
		}
		for _, behind := range []string{string([]byte{byte(b)}), "a" + string([]byte{byte(b)}) + "b", "\"" + string([]byte{byte(b)}), "'\\" + string([]byte{byte(b)})} {
			says(t, "P2501", "func 0 0 0;"+behind+"\nfix 5;"+behind+"\n;"+behind+"\nchar ';';"+behind+"\npop ;"+behind, good)
		}
	}
	says(t, "P2501", ";\n;;\nfunc 0 0 0;\na:;\nfix 5;;\nb: ;\nchar ';'\npop;", good)
	says(t, "P2501", "text \"a;b\";c\ntext \";\"\n"+head, api.Program{Texts: [][]byte{[]byte("a;b"), []byte(";")}, Funcs: make([]api.Func, 1)})
	wrongAt(t, "P2501", 2, head+"fix;5\n")
	wrongAt(t, "P2501", 1, "func 0 0;0\n")
	wrongAt(t, "P2501", 1, "text \"a;\n"+head)
	wrongAt(t, "P2501", 1, "text ;\"a\"\n"+head)
}

// A quote goes up to its own sign, behind which its word has to end.
func TestP2501Quotes(t *testing.T) {
	text := func(b string) api.Program {
		return api.Program{Texts: [][]byte{[]byte(b)}, Funcs: make([]api.Func, 1)}
	}
	says(t, "P2501", "text \"\"\n"+head, text(""))
	says(t, "P2501", "text \"a b\tc\"\n"+head, text("a b\tc"))
	says(t, "P2501", "text \"'\"\n"+head, text("'"))
	says(t, "P2501", "text \"\\\\\"\n"+head, text("\\"))
	says(t, "P2501", "text \"\\\"\"\n"+head, text("\""))
	says(t, "P2501", "text \"\\\\\\\"\\\\\"\n"+head, text("\\\"\\"))
	says(t, "P2501", head+"char '\"'\n", one(op(api.OpChar, 34)))
	says(t, "P2501", head+"char ' '\n", one(op(api.OpChar, 32)))
	for _, wrong := range []string{
		`"`, `"a`, `"a\"`, `"\`, `"\\\"`, `"a'`, `'a'`, `'a"`, `'`, `"a" "b"`, `"a""b"`, `"a"b`, `"a"'b'`, `"a""`, `""a`, `"""`, `a"b"`, `"a" b`, `\"a"`, ``,
	} {
		wrongAt(t, "P2501", 1, "text "+wrong+"\n"+head)
		wrongAt(t, "P2501", 1, "text "+wrong+"\n\"\n"+head)
	}
	for _, wrong := range []string{`'`, `'a`, `'\'`, `'a"`, `"a"`, `'a' 'b'`, `'a''b'`, `'a'b`, `'''`, `a'b'`, `'a'1`, `1'a'`} {
		wrongAt(t, "P2501", 2, head+"char "+wrong+"\npop")
	}
	for b := range 256 {
		c := string([]byte{byte(b)})
		line := "text \"a\"" + c + "\n" + head
		switch c {
		case " ", "\t", ";", "\n":
			says(t, "P2501", line, text("a"))
		default:
			wrongAt(t, "P2501", 1, line)
		}
		plainly(t, "P2501", head+"char 'a'"+c+"\npop")
	}
	wrongAt(t, "P2501", 1, "text \"a\nb\"\n"+head)
	wrongAt(t, "P2501", 1, "text \"a\\\nb\"\n"+head)
}

// No quote stands where another word has to.
func TestP2501QuotesElsewhere(t *testing.T) {
	for _, line := range []string{
		`"pop"`, `'pop'`, `"pop`, `p"op"`, `pop""`, `pop ""`, `pop ''`, `pop '`, `fix "5"`, `fix '5'`, `fix 5"`, `fix 5 '`, `imm "nil"`, `imm 'a'`, `jump "a"`, `jump 'a'`,
		`local '0'`, `flo "0x0000000000000000"`, `text "a"`, `"a":`, `a":`, `"a:"`, `a: "`, `func "0" 0 0`, `func 0 0 '0'`, `"`, `'`, `""`, `''`,
	} {
		wrongAt(t, "P2501", 3, head+"a:\n"+line+"\npop\n")
	}
	for _, line := range []string{`globals "1"`, `globals '1'`, `"globals" 1`, `"text" "a"`, `'text' "a"`, `"func" 0 0 0`} {
		wrongAt(t, "P2501", 1, line+"\n"+head)
	}
}

// The sorts of lines; what stands on the stack or in a function does not matter here.
const (
	globalsSort = iota
	textSort
	funcSort
	labelSort
	bareSort
	textOpSort
	emptySort
	sorts
)

func lineOf(sort int, number string) string {
	return []string{"globals 1", "text \"a\"", "func 0 0 0", "a" + number + ":", "pop", "text 0", ""}[sort] + "\n"
}

// Lines of all sorts, in every order: each is right where the table has it.
func TestP2502Order(t *testing.T) {
	for n := range sorts * sorts * sorts * sorts {
		var text strings.Builder
		wrong, globals, texts, funcs := 0, 0, 0, 0
		for i, rest := 0, n; i < 4; i, rest = i+1, rest/sorts {
			right := true
			switch rest % sorts {
			case globalsSort:
				right = globals == 0 && texts == 0 && funcs == 0
				globals++
			case textSort:
				right = funcs == 0
				texts++
			case funcSort:
				funcs++
			case labelSort, bareSort, textOpSort:
				right = funcs > 0
			}
			if !right && wrong == 0 {
				wrong = i + 1
			}
			text.WriteString(lineOf(rest%sorts, "bcde"[i:i+1]))
		}
		switch {
		case wrong > 0:
			wrongAt(t, "P2502", wrong, text.String())
		case funcs == 0:
			misshapen(t, "P2502", text.String())
		default:
			plainly(t, "P2502", text.String())
		}
	}
}

// Each thing a line says goes where the table has it.
func TestP2502Whole(t *testing.T) {
	says(t, "P2502", "globals 7\ntext \"a\"\ntext \"bc\"\nfunc 1 2 3\npop\ndup\nfunc 4 5 6\nfunc 0 64 64\nswap\n", api.Program{
		Globals: 7,
		Texts:   [][]byte{[]byte("a"), []byte("bc")},
		Funcs: []api.Func{
			{Params: 1, Locals: 2, Captures: 3, Code: []api.Ins{op(api.OpPop), op(api.OpDup)}},
			{Params: 4, Locals: 5, Captures: 6},
			{Locals: 64, Captures: 64, Code: []api.Ins{op(api.OpSwap)}},
		},
	})
	says(t, "P2502", head, one())
	says(t, "P2502", "globals 0\n"+head, one())
	wrongAt(t, "P2502", 2, "globals 0\nglobals 0\n"+head)
}

// Each line has just as many operands as the table says.
func TestP2502Operands(t *testing.T) {
	want := map[string]int{"globals": 1, "func": 3, "a:": 0}
	for op := range 76 {
		if name := plainName(op); name != "" && plainSort(op) != '.' {
			want[name] = 1
		} else if name != "" {
			want[name] = 0
		}
	}
	for word, n := range want {
		operand := " 1"
		if word == "flo" {
			operand = " 0x0000000000000001"
		}
		for count := range 5 {
			text, at := head+word+strings.Repeat(operand, count), 2
			if word == "globals" {
				text, at = word+strings.Repeat(operand, count)+"\n"+head, 1
			}
			if count != n {
				wrongAt(t, "P2502", at, text)
			} else if !plainly(t, "P2502", text) {
				t.Errorf("P2502: %q is refused", text)
			}
		}
	}
	for count, right := range []bool{false, true, false, false} {
		text := "text" + strings.Repeat(" \"a\"", count) + "\n" + head
		if got := plainly(t, "P2502", text); got != right {
			t.Errorf("P2502: %q: %v", text, got)
		}
	}
}

// The names of DOC.md's table, and none beside them.
func TestP2502Names(t *testing.T) {
	list := []string{
		1: "fix", 2: "char", 3: "imm", 4: "text", 5: "flo", 6: "local", 7: "setlocal", 8: "captured", 9: "global", 10: "setglobal", 11: "pop", 12: "dup", 13: "swap",
		14: "jump", 15: "branch", 16: "closure", 17: "call", 18: "tail", 19: "return", 20: "callcc", 21: "halt", 22: "error",
		30: "cons", 31: "car", 32: "cdr", 33: "setcar", 34: "setcdr", 35: "box", 36: "unbox", 37: "setbox", 38: "vector", 39: "vectorref", 40: "vectorset", 41: "vectorlen",
		42: "textlen", 43: "textref", 44: "texteq", 45: "eq", 46: "kind", 47: "not", 48: "add", 49: "sub", 50: "mul", 51: "quot", 52: "rem", 53: "less",
		54: "floadd", 55: "flosub", 56: "flomul", 57: "flodiv", 58: "floless", 59: "toflo", 60: "tofix", 61: "charfix", 62: "fixchar",
		63: "weakcons", 64: "weakcar", 65: "weakcdr", 66: "setweakcdr", 67: "eph", 68: "ephkey", 69: "ephval",
		70: "table", 71: "tableget", 72: "tableput", 73: "tabledel", 74: "tablecount", 75: "out",
	}
	for n, name := range list {
		if name == "" {
			continue
		}
		text, in := name, op(n)
		switch {
		case n == api.OpFlo:
			text, in.A = name+" 0x0000000000000003", 3
		case n < 11 || n >= 14 && n <= 18:
			text, in.A = name+" 3", 3
		}
		says(t, "P2502", head+text, one(in))
		for _, wrong := range []string{strings.ToUpper(name[:1]) + name[1:], strings.ToUpper(name), name + "s", "x" + name, name[1:], name[:len(name)-1], "_" + name, name + "1", name + "\x00"} {
			if _, there := opsList[wrong]; !there {
				wrongAt(t, "P2502", 2, head+strings.Replace(text, name, wrong, 1))
			}
		}
	}
	for _, wrong := range []string{"globals", "func", "nop", "x", "0", "1", "-", "?", "ret", "funcs 0 0 0", "global 1 2", "Func 0 0 0", "texts 0", "31", "nil", ".", ":"} {
		wrongAt(t, "P2502", 2, head+wrong+"\n")
	}
}

// What a label may be called: of one byte, of two, and longer.
func TestP2502Labels(t *testing.T) {
	const letters = "ABCDEFGHIJKLMNOPQRSTUVWXYZabcdefghijklmnopqrstuvwxyz_"
	good := one(op(api.OpPop), op(api.OpJump, 1))
	for a := range 256 {
		one := string([]byte{byte(a)})
		if strings.Contains(letters, one) {
			says(t, "P2502", head+"pop\n"+one+":\njump "+one, good)
		} else if !strings.Contains("\n; \t", one) {
			wrongAt(t, "P2502", 3, head+"pop\n"+one+":\njump 1")
			wrongAt(t, "P2502", 3, head+"pop\n"+one+"a:\njump 1")
		}
		two := "q" + one
		if strings.Contains(letters+"0123456789", one) {
			says(t, "P2502", head+"pop\n"+two+":\njump "+two, good)
		} else if one != "\n" {
			wrongAt(t, "P2502", 3, head+"pop\n"+two+":\njump 1")
		}
	}
	long := strings.Repeat("aZ_09", 2000)
	for _, name := range []string{"pop", "globals", "func", "text", "nil", "true", "L1", "__", "_0", "x9y", long} {
		says(t, "P2502", head+"pop\n"+name+":\njump "+name, good)
	}
	for _, line := range []string{":", " :", "a :", "a: pop", "a: b:", "a:b", "a::", "a:b:", "é:", "aé:", "a-b:", "0:", "0a:", "-:", "a.:", ":a", "a: 1", "a:\r", "\"\":"} {
		wrongAt(t, "P2502", 3, head+"pop\n"+line+"\njump 1")
	}
}

// A name stands once in a function, and in each function anew; a label is the number of the next instruction.
func TestP2502LabelsOfFunctions(t *testing.T) {
	wrongAt(t, "P2502", 4, head+"a:\npop\na:\n")
	wrongAt(t, "P2502", 4, head+"a:\nb:\na:\nb:\n")
	wrongAt(t, "P2502", 3, head+"a:\na:\n"+head+"a:\n")
	says(t, "P2502", head+"A:\na:\n_a:\npop\na_:\njump a_\njump A\njump a\njump _a", one(op(api.OpPop), op(api.OpJump, 1), op(api.OpJump, 0), op(api.OpJump, 0), op(api.OpJump, 0)))
	says(t, "P2502", head+"pop\na:\njump a\n"+head+"jump a\na:\n"+head+"a:\nb:\nbranch b\n", api.Program{Funcs: []api.Func{
		{Code: []api.Ins{op(api.OpPop), op(api.OpJump, 1)}},
		{Code: []api.Ins{op(api.OpJump, 1)}},
		{Code: []api.Ins{op(api.OpBranch, 0)}},
	}})
	wrongAt(t, "P2502", 5, head+"a:\njump a\n"+head+"jump a\n")
	wrongAt(t, "P2502", 1, "a:\n"+head)
}
