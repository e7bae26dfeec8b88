package code

import (
	"bytes"

	"hearth/api"
)

// reader reads bytes from the left, part by part.
type reader struct {
	bytes []byte
	at    int // where the next part begins
}

// whole reads a program behind which nothing is left.
func (r *reader) whole() api.Program {
	p := r.program()
	want(r.at == len(r.bytes), api.ErrBytes, r.at)
	return p
}

func (r *reader) program() api.Program {
	r.magic()
	var p api.Program
	p.Globals = r.number(0, api.MaxGlobals)
	p.Texts = make([][]byte, r.number(0, api.MaxTexts))
	for i := range p.Texts {
		p.Texts[i] = bytes.Clone(r.take(r.number(0, api.MaxText)))
	}
	p.Funcs = make([]api.Func, r.number(1, api.MaxFuncs))
	for i := range p.Funcs {
		p.Funcs[i] = r.function()
	}
	return p
}

// magic reads the first bytes, each of which is a part by itself.
func (r *reader) magic() {
	for i := range len(magic) {
		at := r.at
		want(r.take(1)[0] == magic[i], api.ErrBytes, at)
	}
}

func (r *reader) function() api.Func {
	var f api.Func
	f.Params = r.number(0, api.MaxParams)
	f.Locals = r.number(0, api.MaxLocals)
	f.Captures = r.number(0, api.MaxCaptures)
	f.Code = make([]api.Ins, r.number(0, api.MaxCode))
	for i := range f.Code {
		f.Code[i] = r.instruction()
	}
	return f
}

func (r *reader) instruction() api.Ins {
	at := r.at
	op := int(r.take(1)[0])
	sort := operandOf(op)
	want(sort != unknown, api.ErrBytes, at)
	a := 0
	switch sort {
	case numbered:
		a = r.number(0, mostNumber)
	case signed:
		a = r.signed()
	case bits:
		a = r.bits()
	}
	return api.Ins{Op: op, A: a}
}

// signed reads a fixnum.
func (r *reader) signed() int {
	n := r.number(0, mostSigned)
	if n%2 == 0 {
		return n / 2
	}
	return -(n / 2) - 1
}

// bits reads any int.
func (r *reader) bits() int {
	n := 0
	for i, b := range r.take(floBytes) {
		n |= int(b) << (byteBits * i)
	}
	return n
}

// number reads a number from least to most.
func (r *reader) number(least, most int) int {
	at, n := r.at, 0
	row := r.take(r.numberSize())
	for i, b := range row {
		n |= int(b%more) << (numberBits * i)
	}
	last := len(row) - 1
	want(last == 0 || row[last] != 0, api.ErrBytes, at)
	want(n >= least && n <= most, api.ErrBytes, at)
	return n
}

// numberSize tells how many bytes the number that begins here has.
func (r *reader) numberSize() int {
	left := r.bytes[r.at:]
	for i := range min(len(left), mostBytes) {
		if left[i] < more {
			return i + 1
		}
	}
	want(len(left) >= mostBytes, api.ErrEnd, len(r.bytes))
	panic(wrong{api.ErrBytes, r.at})
}

// take goes over the next n bytes.
func (r *reader) take(n int) []byte {
	want(n <= len(r.bytes)-r.at, api.ErrEnd, len(r.bytes))
	r.at += n
	return r.bytes[r.at-n : r.at]
}
