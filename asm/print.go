package asm

import (
	"strconv"
	"strings"

	"hearth/api"
)

// From where to where bytes stand for themselves in a quote.
const (
	firstSelf = 32
	lastSelf  = 126
)

// printer puts the lines of a program, which can be written, behind one another.
type printer struct{ strings.Builder }

// put puts down a line of such parts.
func (t *printer) put(parts ...string) {
	for _, part := range parts {
		t.WriteString(part)
	}
	t.WriteString(lineEnd)
}

func (t *printer) whole(p api.Program) {
	if p.Globals > 0 {
		t.put(globalsWord, " ", strconv.Itoa(p.Globals))
	}
	for _, text := range p.Texts {
		t.put(textWord, " ", quoted(text, textSign))
	}
	for _, f := range p.Funcs {
		t.function(f)
	}
}

func (t *printer) function(f api.Func) {
	t.put(funcWord, " ", strconv.Itoa(f.Params), " ", strconv.Itoa(f.Locals), " ", strconv.Itoa(f.Captures))
	labelled := targets(f)
	for i, in := range f.Code {
		if labelled[i] {
			t.put(labelOf(i), labelEnd)
		}
		if how := operandOf(in.Op); how == without {
			t.put("\t", names[in.Op])
		} else {
			t.put("\t", names[in.Op], " ", operandText(how, in.A, len(f.Code)))
		}
	}
}

// targets tells of each instruction of a function whether a jump goes to it.
func targets(f api.Func) []bool {
	list := make([]bool, len(f.Code))
	for _, in := range f.Code {
		if operandOf(in.Op) == target && in.A < len(list) {
			list[in.A] = true
		}
	}
	return list
}

// labelOf is the name of an instruction's label.
func labelOf(i int) string { return "L" + strconv.Itoa(i) }

// operandText tells an operand in a function of so many instructions.
func operandText(how operand, a, instructions int) string {
	switch {
	case how == bits:
		return floBegins + hexText(uint64(a), floDigits)
	case how == char && a >= firstSelf && a <= lastSelf:
		return quoted([]byte{byte(a)}, charSign)
	case how == immediate && a < len(immediates):
		return immediates[a]
	case how == target && a < instructions:
		return labelOf(a)
	}
	return strconv.Itoa(a)
}

// hexText tells the lowest digits of a number, the highest of them first.
func hexText(n uint64, count int) string {
	text := make([]byte, count)
	for i := count - 1; i >= 0; i-- {
		text[i] = digits[n%uint64(len(digits))]
		n /= uint64(len(digits))
	}
	return string(text)
}

// quoted tells bytes as a quote of that sign.
func quoted(list []byte, sign string) string {
	var t strings.Builder
	t.WriteString(sign)
	for _, b := range list {
		t.WriteString(byteText(b, sign[0]))
	}
	t.WriteString(sign)
	return t.String()
}

// byteText tells a byte between signs.
func byteText(b, sign byte) string {
	switch {
	case b == sign || b == escape[0]:
		return escape + string(rune(b))
	case b >= firstSelf && b <= lastSelf:
		return string(rune(b))
	case b == '\n':
		return escape + "n"
	case b == '\t':
		return escape + "t"
	}
	return escape + "x" + hexText(uint64(b), 2)
}
