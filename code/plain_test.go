package code

import (
	"bytes"
	"math/rand"
	"slices"

	"hearth/api"
)

// The chapter's words as plainly as they stand, with its numbers, to hold the package against.

const (
	greatest = 1<<63 - 1
	least    = -1 << 63
	mostFix  = 1<<60 - 1
	leastFix = -1 << 60
)

// plainSort is what the chapter says of an instruction's operand: f a fixnum, b any int, n a number, 0 none; ? there is no such instruction.
func plainSort(op int) byte {
	const sorts = "?fnnnbnnnnn000nnnnn0000" // of the instructions 0 to 22
	switch {
	case op >= 0 && op < len(sorts):
		return sorts[op]
	case op >= 30 && op <= 75:
		return '0'
	}
	return '?'
}

// plainNumber is the row of a number.
func plainNumber(n uint64) []byte {
	if n < 128 {
		return []byte{byte(n)}
	}
	return append([]byte{byte(128 + n%128)}, plainNumber(n/128)...)
}

// plainSigned is the row of a signed number.
func plainSigned(n int) []byte {
	if n >= 0 {
		return plainNumber(2 * uint64(n))
	}
	return plainNumber(2*uint64(-n) - 1)
}

// plainBits is the row of any int.
func plainBits(n int) []byte {
	var row []byte
	for u := uint64(n); len(row) < 8; u /= 256 {
		row = append(row, byte(u%256))
	}
	return row
}

// plainOperand is the row of an operand; false: it can't be written.
func plainOperand(op, a int) ([]byte, bool) {
	switch plainSort(op) {
	case 'f':
		return plainSigned(a), a >= leastFix && a <= mostFix
	case 'b':
		return plainBits(a), true
	case 'n':
		return plainNumber(uint64(a)), a >= 0 && a <= 2097151
	case '0':
		return nil, a == 0
	}
	return nil, false
}

// plainWrite is Write.
func plainWrite(p api.Program) ([]byte, api.Errno) {
	row, good := []byte{0x68, 0x74, 0x68, 1}, true
	number := func(n, low, high int) {
		good = good && n >= low && n <= high
		row = append(row, plainNumber(uint64(n))...)
	}
	number(p.Globals, 0, 64)
	number(len(p.Texts), 0, 64)
	for _, text := range p.Texts {
		number(len(text), 0, 4096)
		row = append(row, text...)
	}
	number(len(p.Funcs), 1, 64)
	for _, f := range p.Funcs {
		number(f.Params, 0, 8)
		number(f.Locals, 0, 64)
		number(f.Captures, 0, 64)
		number(len(f.Code), 0, 4096)
		for _, i := range f.Code {
			a, fits := plainOperand(i.Op, i.A)
			good = good && fits
			row = append(append(row, byte(i.Op)), a...)
		}
	}
	switch {
	case !good:
		return nil, 62
	case len(row) > 65536:
		return nil, 2
	}
	return row, 0
}

// scan reads rows; behind the first error nothing is read.
type scan struct {
	row   []byte
	at    int
	errno api.Errno
	place int
}

func (s *scan) fail(errno api.Errno, place int) {
	if s.errno == 0 {
		s.errno, s.place = errno, place
	}
}

// raw is the next n bytes.
func (s *scan) raw(n int) []byte {
	if s.errno == 0 && s.at+n > len(s.row) {
		s.fail(61, len(s.row))
	}
	if s.errno != 0 {
		return make([]byte, n)
	}
	s.at += n
	return slices.Clone(s.row[s.at-n : s.at])
}

func (s *scan) number(low, high uint64) uint64 {
	if s.errno != 0 {
		return 0
	}
	first, last := s.at, s.at
	for last < len(s.row) && s.row[last] >= 128 && last < first+8 {
		last++
	}
	if last == len(s.row) {
		s.fail(61, len(s.row))
		return 0
	}
	n := uint64(0)
	for i := last; i >= first; i-- {
		n = n*128 + uint64(s.row[i]%128)
	}
	s.at = last + 1
	if s.row[last] >= 128 || s.row[last] == 0 && last > first || n < low || n > high {
		s.fail(60, first)
		return 0
	}
	return n
}

func (s *scan) instruction() api.Ins {
	at := s.at
	op := int(s.raw(1)[0])
	i := api.Ins{Op: op}
	switch plainSort(op) {
	case 'f':
		n := s.number(0, 1<<61-1)
		i.A = int(n / 2)
		if n%2 == 1 {
			i.A = -1 - i.A
		}
	case 'n':
		i.A = int(s.number(0, 2097151))
	case 'b':
		n := uint64(0)
		for _, b := range slices.Backward(s.raw(8)) {
			n = n*256 + uint64(b)
		}
		i.A = int(n)
	case '?':
		s.fail(60, at)
	}
	return i
}

func (s *scan) function() api.Func {
	f := api.Func{Params: int(s.number(0, 8))}
	f.Locals = int(s.number(0, 64))
	f.Captures = int(s.number(0, 64))
	for range s.number(0, 4096) {
		if s.errno == 0 {
			f.Code = append(f.Code, s.instruction())
		}
	}
	return f
}

// plainRead is Read.
func plainRead(row []byte) (api.Program, int, api.Errno) {
	if len(row) > 65536 {
		return api.Program{}, 0, 2
	}
	s := &scan{row: row}
	for i, want := range []byte{0x68, 0x74, 0x68, 1} {
		if s.raw(1)[0] != want {
			s.fail(60, i)
		}
	}
	p := api.Program{Globals: int(s.number(0, 64))}
	for range s.number(0, 64) {
		p.Texts = append(p.Texts, s.raw(int(s.number(0, 4096))))
	}
	for range s.number(1, 64) {
		if s.errno == 0 {
			p.Funcs = append(p.Funcs, s.function())
		}
	}
	if s.at < len(row) {
		s.fail(60, s.at)
	}
	if s.errno != 0 {
		return api.Program{}, s.place, s.errno
	}
	return p, 0, 0
}

// alike tells whether two programs are one; nil and an empty list are.
func alike(p, q api.Program) bool {
	return p.Globals == q.Globals && slices.EqualFunc(p.Texts, q.Texts, bytes.Equal) && slices.EqualFunc(p.Funcs, q.Funcs, alikeFuncs)
}

func alikeFuncs(f, g api.Func) bool {
	return f.Params == g.Params && f.Locals == g.Locals && f.Captures == g.Captures && slices.Equal(f.Code, g.Code)
}

// clone is a program that shares nothing with p.
func clone(p api.Program) api.Program {
	p.Texts = slices.Clone(p.Texts)
	for i, text := range p.Texts {
		p.Texts[i] = slices.Clone(text)
	}
	p.Funcs = slices.Clone(p.Funcs)
	for i, f := range p.Funcs {
		p.Funcs[i].Code = slices.Clone(f.Code)
	}
	return p
}

// someOperand is an operand that can be written, near the edges as often as far from them.
func someOperand(source *rand.Rand, op int) int {
	n := int(source.Uint64()) >> source.Intn(64)
	switch plainSort(op) {
	case 'f':
		return max(leastFix, min(mostFix, n))
	case 'b':
		return n
	case 'n':
		return max(0, min(2097151, n))
	}
	return 0
}

// someProgram is a program that can be written, of a few bytes or of a few hundred.
func someProgram(source *rand.Rand) api.Program {
	p := api.Program{Globals: source.Intn(65)}
	for range source.Intn(4) {
		text := make([]byte, source.Intn(3)*source.Intn(200))
		source.Read(text)
		p.Texts = append(p.Texts, text)
	}
	for range 1 + source.Intn(4) {
		f := api.Func{Params: source.Intn(9), Locals: source.Intn(65), Captures: source.Intn(65)}
		for range source.Intn(3) * source.Intn(100) {
			op := 1 + source.Intn(75)
			if plainSort(op) != '?' {
				f.Code = append(f.Code, api.Ins{Op: op, A: someOperand(source, op)})
			}
		}
		p.Funcs = append(p.Funcs, f)
	}
	return p
}
