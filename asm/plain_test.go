package asm

import (
	"bytes"
	"fmt"
	"math/big"
	"regexp"
	"slices"
	"strconv"
	"strings"
	"unicode/utf8"

	"hearth/api"
	"hearth/code"
)

// The chapter's words as plainly as they stand, with its numbers, to hold the package against.

const (
	greatest = 1<<63 - 1
	least    = -1 << 63
	mostFix  = 1<<60 - 1
	leastFix = -1 << 60
)

// plainNames are the names of the instructions 0 to 22 and 30 to 75, as DOC.md's table has them.
const (
	lowNames  = "? fix char imm text flo local setlocal captured global setglobal pop dup swap jump branch closure call tail return callcc halt error"
	highNames = "cons car cdr setcar setcdr box unbox setbox vector vectorref vectorset vectorlen textlen textref texteq eq kind not add sub mul quot rem less floadd flosub flomul flodiv floless toflo tofix charfix fixchar weakcons weakcar weakcdr setweakcdr eph ephkey ephval table tableget tableput tabledel tablecount out"
	lowSorts  = "?fcinbnnnnn...jjnnn...." // fixnum, char, immediate, number, bits, jump; . for none
)

var (
	lowList  = strings.Fields(lowNames)
	highList = strings.Fields(highNames)
	opsList  = plainOps()
)

// plainName is an instruction's name; "": there is no such instruction.
func plainName(op int) string {
	switch {
	case op >= 1 && op <= 22:
		return lowList[op]
	case op >= 30 && op <= 75:
		return highList[op-30]
	}
	return ""
}

// plainOps are the instructions by their names.
func plainOps() map[string]int {
	ops := map[string]int{}
	for op := range 76 {
		if name := plainName(op); name != "" {
			ops[name] = op
		}
	}
	return ops
}

// plainSort is what an instruction's operand is.
func plainSort(op int) byte {
	if op <= 22 {
		return lowSorts[op]
	}
	return '.'
}

// What lines there are; a word is a quote, or begins with no sign of one.
const (
	plainEnd  = `[ \t]*(?:;.*)?$`
	plainWord = `"(?:[^"\\]|\\.)*"|'(?:[^'\\]|\\.)*'|[^ \t;"'][^ \t;]*`
)

// form is a regular expression of a whole line of such words.
func form(words ...string) *regexp.Regexp {
	return regexp.MustCompile(`(?s)^[ \t]*` + strings.Join(words, `[ \t]+`) + plainEnd)
}

var (
	emptyForm   = form()
	globalsForm = form("globals", "("+plainWord+")")
	textForm    = form("text", `("(?:[^"\\]|\\.)*")`)
	funcForm    = form("func", "("+plainWord+")", "("+plainWord+")", "("+plainWord+")")
	labelForm   = form("([A-Za-z_][A-Za-z_0-9]*):")
	bareForm    = form("([a-z]+)")
	insForm     = form("([a-z]+)", "("+plainWord+")")
	numberForm  = regexp.MustCompile(`^(0|[1-9][0-9]*)$`)
	nameForm    = regexp.MustCompile(`^[A-Za-z_][A-Za-z_0-9]*$`)
	bitsForm    = regexp.MustCompile(`^0x[0-9a-f]{16}$`)
	bodyForm    = regexp.MustCompile(`(?s)^(?:[^\\]|\\[\\"'nt]|\\x[0-9a-f][0-9a-f])*$`)
	escapeForm  = regexp.MustCompile(`(?s)\\(x..|.)`)
)

// plainNumber is a decimal number; false: it is none.
func plainNumber(word string) (int, bool) {
	n, ok := new(big.Int).SetString(word, 10)
	if !numberForm.MatchString(word) || !ok || !n.IsInt64() {
		return 0, false
	}
	return int(n.Int64()), true
}

// plainBytes is what a quote says.
func plainBytes(quote string) ([]byte, bool) {
	body := []byte(quote[1 : len(quote)-1])
	if !bodyForm.Match(body) {
		return nil, false
	}
	return escapeForm.ReplaceAllFunc(body, func(b []byte) []byte {
		var n byte
		switch b[1] {
		case 'n':
			n = 10
		case 't':
			n = 9
		case 'x':
			wide, _ := strconv.ParseUint(string(b[2:]), 16, 8)
			n = byte(wide)
		default:
			n = b[1]
		}
		return []byte{n}
	}), true
}

var plainImms = []string{"nil", "false", "true", "void", "broken", "unbound"}

// plainOperand is an operand; of a jump to a label its name.
func plainOperand(op int, word string) (a int, name string, ok bool) {
	switch plainSort(op) {
	case 'f':
		if rest, below := strings.CutPrefix(word, "-"); below {
			n, ok := plainNumber(rest)
			return -n, "", ok && n > 0 && -n >= leastFix
		}
		n, ok := plainNumber(word)
		return n, "", ok && n <= mostFix
	case 'b':
		n, _ := new(big.Int).SetString(strings.TrimPrefix(word, "0x"), 16)
		if !bitsForm.MatchString(word) {
			return 0, "", false
		}
		return int(n.Uint64()), "", true
	case 'c':
		if word[0] == '\'' {
			b, ok := plainBytes(word)
			r, size := utf8.DecodeRune(b)
			return int(r), "", ok && len(b) > 0 && size == len(b) && (r != utf8.RuneError || size == 3)
		}
	case 'i':
		if i := slices.Index(plainImms, word); i >= 0 {
			return i, "", true
		}
	case 'j':
		if nameForm.MatchString(word) {
			return 0, word, true
		}
	case '.':
		return 0, "", false
	}
	a, ok = plainNumber(word)
	return a, "", ok
}

// jumpTo is a jump to a label.
type jumpTo struct {
	line, function, instruction int
	name                        string
}

// plainReader goes over lines.
type plainReader struct {
	p       api.Program
	globals bool
	labels  []map[string]int // of each function
	jumps   []jumpTo
	line    int
	wrong   []int
}

// matched are what the parentheses of a form matched.
func matched(of *regexp.Regexp, line string) []string {
	if m := of.FindStringSubmatch(line); m != nil {
		return m[1:]
	}
	return nil
}

// says does what a line says; false: it is wrong.
func (x *plainReader) says(line string) bool {
	last := len(x.p.Funcs) - 1
	if emptyForm.MatchString(line) {
		return true
	}
	if w := matched(globalsForm, line); w != nil {
		n, ok := plainNumber(w[0])
		if !ok || x.globals || len(x.p.Texts) > 0 || last >= 0 {
			return false
		}
		x.globals, x.p.Globals = true, n
		return true
	}
	if w := matched(textForm, line); w != nil {
		b, ok := plainBytes(w[0])
		if !ok || last >= 0 {
			return false
		}
		x.p.Texts = append(x.p.Texts, b)
		return true
	}
	if w := matched(funcForm, line); w != nil {
		p, ok1 := plainNumber(w[0])
		l, ok2 := plainNumber(w[1])
		c, ok3 := plainNumber(w[2])
		if !ok1 || !ok2 || !ok3 {
			return false
		}
		x.p.Funcs = append(x.p.Funcs, api.Func{Params: p, Locals: l, Captures: c})
		x.labels = append(x.labels, map[string]int{})
		return true
	}
	if last < 0 {
		return false
	}
	f := &x.p.Funcs[last]
	if w := matched(labelForm, line); w != nil {
		if _, twice := x.labels[last][w[0]]; twice {
			return false
		}
		x.labels[last][w[0]] = len(f.Code)
		return true
	}
	return x.instruction(line, f, last)
}

func (x *plainReader) instruction(line string, f *api.Func, last int) bool {
	if w := matched(bareForm, line); w != nil {
		op, there := opsList[w[0]]
		if !there || plainSort(op) != '.' {
			return false
		}
		f.Code = append(f.Code, api.Ins{Op: op})
		return true
	}
	w := matched(insForm, line)
	if w == nil {
		return false
	}
	op, there := opsList[w[0]]
	if !there {
		return false
	}
	a, name, ok := plainOperand(op, w[1])
	if !ok {
		return false
	}
	if name != "" {
		x.jumps = append(x.jumps, jumpTo{x.line, last, len(f.Code), name})
	}
	f.Code = append(f.Code, api.Ins{Op: op, A: a})
	return true
}

// plainLines are a text's lines.
func plainLines(text string) []string {
	lines := strings.Split(text, "\n")
	if lines[len(lines)-1] == "" {
		lines = lines[:len(lines)-1]
	}
	return lines
}

// plainAssemble is Assemble.
func plainAssemble(text string) (api.Program, int, api.Errno) {
	lines := plainLines(text)
	if len(text) > 1<<20 || len(lines) > 100000 {
		return api.Program{}, 0, 2
	}
	x := &plainReader{}
	for i, line := range lines {
		x.line = i + 1
		if !x.says(line) {
			x.wrong = append(x.wrong, x.line)
		}
	}
	for _, j := range x.jumps {
		at, there := x.labels[j.function][j.name]
		if !there {
			x.wrong = append(x.wrong, j.line)
		}
		x.p.Funcs[j.function].Code[j.instruction].A = at
	}
	if len(x.wrong) > 0 {
		return api.Program{}, slices.Min(x.wrong), 90
	}
	if _, errno := code.Write(x.p); errno != 0 {
		return api.Program{}, 0, errno
	}
	return x.p, 0, 0
}

// plainByte is a byte between signs.
func plainByte(b, sign byte) string {
	switch {
	case b == sign || b == '\\':
		return "\\" + string(b)
	case b >= 32 && b <= 126:
		return string(b)
	case b == 10:
		return `\n`
	case b == 9:
		return `\t`
	}
	return fmt.Sprintf(`\x%02x`, b)
}

// plainOperandText is how an operand is printed.
func plainOperandText(f api.Func, in api.Ins) string {
	switch sort := plainSort(in.Op); {
	case sort == '.':
		return ""
	case sort == 'b':
		return fmt.Sprintf(" 0x%016x", uint64(in.A))
	case sort == 'c' && in.A >= 32 && in.A <= 126:
		return " '" + plainByte(byte(in.A), '\'') + "'"
	case sort == 'i' && in.A <= 5:
		return " " + plainImms[in.A]
	case sort == 'j' && in.A < len(f.Code):
		return fmt.Sprintf(" L%d", in.A)
	}
	return fmt.Sprintf(" %d", in.A)
}

// plainPrint is Print.
func plainPrint(p api.Program) (string, api.Errno) {
	if _, errno := code.Write(p); errno != 0 {
		return "", errno
	}
	var b strings.Builder
	if p.Globals > 0 {
		fmt.Fprintf(&b, "globals %d\n", p.Globals)
	}
	for _, text := range p.Texts {
		b.WriteString(`text "`)
		for _, c := range text {
			b.WriteString(plainByte(c, '"'))
		}
		b.WriteString("\"\n")
	}
	for _, f := range p.Funcs {
		fmt.Fprintf(&b, "func %d %d %d\n", f.Params, f.Locals, f.Captures)
		goesTo := map[int]int{}
		for _, in := range f.Code {
			if plainSort(in.Op) == 'j' {
				goesTo[in.A]++
			}
		}
		for i, in := range f.Code {
			if goesTo[i] > 0 {
				fmt.Fprintf(&b, "L%d:\n", i)
			}
			fmt.Fprintf(&b, "\t%s%s\n", plainName(in.Op), plainOperandText(f, in))
		}
	}
	return b.String(), 0
}

// alike tells whether two programs are one; nil and an empty list are.
func alike(p, q api.Program) bool {
	return p.Globals == q.Globals && slices.EqualFunc(p.Texts, q.Texts, bytes.Equal) && slices.EqualFunc(p.Funcs, q.Funcs, alikeFuncs)
}

func alikeFuncs(f, g api.Func) bool {
	return f.Params == g.Params && f.Locals == g.Locals && f.Captures == g.Captures && slices.Equal(f.Code, g.Code)
}

// clone is a program that shares nothing with p.
func clone(p api.Program) api.Program {
	p.Texts = slices.Clone(p.Texts)
	for i, text := range p.Texts {
		p.Texts[i] = slices.Clone(text)
	}
	p.Funcs = slices.Clone(p.Funcs)
	for i, f := range p.Funcs {
		p.Funcs[i].Code = slices.Clone(f.Code)
	}
	return p
}
