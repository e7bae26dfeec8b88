package code

import (
	"bytes"
	"fmt"
	"testing"

	"hearth/api"
)

// one is a program of one function of these instructions.
func one(list ...api.Ins) api.Program { return api.Program{Funcs: []api.Func{{Code: list}}} }

// head is the bytes of a program without globals and texts, up to its only function's n instructions.
func head(n byte) []byte { return []byte{0x68, 0x74, 0x68, 1, 0, 0, 1, 0, 0, 0, n} }

// join is rows behind one another, as one new row.
func join(rows ...[]byte) []byte { return bytes.Join(rows, nil) }

// short tells of a long row its beginning alone.
func short(row []byte) string {
	return fmt.Sprintf("% x (%d bytes)", row[:min(len(row), 24)], len(row))
}

// writes tells a fault, if Write answers otherwise, or leaves its argument otherwise.
func writes(t testing.TB, promise string, p api.Program, want []byte, errno api.Errno) {
	t.Helper()
	kept := clone(p)
	if b, e := Write(p); e != errno || !bytes.Equal(b, want) {
		t.Errorf("%s: Write: %s, %v; want %s, %v", promise, short(b), e, short(want), errno)
	}
	if !alike(p, kept) {
		t.Errorf("%s: Write has turned the program", promise)
	}
}

// reads tells a fault, if Read answers otherwise.
func reads(t testing.TB, promise string, row []byte, want api.Program, at int, errno api.Errno) {
	t.Helper()
	if p, a, e := Read(row); a != at || e != errno || !alike(p, want) {
		t.Errorf("%s: Read(%s) = %v, %d, %v; want %v, %d, %v", promise, short(row), p, a, e, want, at, errno)
	}
}

// stands tells a fault, if the program and the bytes are not each other's.
func stands(t testing.TB, promise string, p api.Program, row []byte) {
	t.Helper()
	writes(t, promise, p, row, api.OK)
	reads(t, promise, row, p, 0, api.OK)
}

// refused tells a fault, if the bytes are not refused at that place.
func refused(t testing.TB, promise string, row []byte, at int, errno api.Errno) {
	t.Helper()
	reads(t, promise, row, api.Program{}, at, errno)
}

// misshapen tells a fault, if the program is not refused.
func misshapen(t testing.TB, promise string, p api.Program) {
	t.Helper()
	writes(t, promise, p, nil, api.ErrForm)
}

func TestExamples(t *testing.T) {
	stands(t, "P1803", one(api.Ins{Op: api.OpFix, A: 5}, api.Ins{Op: api.OpReturn}),
		[]byte{0x68, 0x74, 0x68, 0x01, 0x00, 0x00, 0x01, 0x00, 0x00, 0x00, 0x02, 0x01, 0x0a, 0x13})
	stands(t, "P1803", api.Program{
		Globals: 2,
		Texts:   [][]byte{[]byte("a")},
		Funcs:   []api.Func{{Locals: 1, Code: []api.Ins{{Op: api.OpText}, {Op: api.OpSetLocal}, {Op: api.OpFlo, A: 1}, {Op: api.OpHalt}}}},
	}, []byte{0x68, 0x74, 0x68, 0x01, 0x02, 0x01, 0x01, 0x61, 0x01, 0x00, 0x01, 0x00, 0x04, 0x04, 0x00, 0x07, 0x00, 0x05, 0x01, 0, 0, 0, 0, 0, 0, 0, 0x15})
}

func TestP1801Numbers(t *testing.T) {
	for n, row := range map[int][]byte{
		0: {0}, 1: {1}, 126: {0x7e}, 127: {0x7f}, 128: {0x80, 1}, 129: {0x81, 1}, 255: {0xff, 1}, 256: {0x80, 2}, 300: {0xac, 2},
		16383: {0xff, 0x7f}, 16384: {0x80, 0x80, 1}, 2097150: {0xfe, 0xff, 0x7f}, 2097151: {0xff, 0xff, 0x7f},
	} {
		stands(t, "P1801", one(api.Ins{Op: api.OpJump, A: n}), join(head(1), []byte{14}, row))
	}
}

func TestP1801SignedNumbers(t *testing.T) {
	for n, row := range map[int][]byte{
		0: {0}, -1: {1}, 1: {2}, -2: {3}, 2: {4}, 63: {0x7e}, -64: {0x7f}, 64: {0x80, 1}, -65: {0x81, 1}, 150: {0xac, 2}, -150: {0xab, 2},
		8191: {0xfe, 0x7f}, -8192: {0xff, 0x7f}, 8192: {0x80, 0x80, 1},
		mostFix:      {0xfe, 0xff, 0xff, 0xff, 0xff, 0xff, 0xff, 0xff, 0x1f},
		leastFix:     {0xff, 0xff, 0xff, 0xff, 0xff, 0xff, 0xff, 0xff, 0x1f},
		mostFix - 1:  {0xfc, 0xff, 0xff, 0xff, 0xff, 0xff, 0xff, 0xff, 0x1f},
		leastFix + 1: {0xfd, 0xff, 0xff, 0xff, 0xff, 0xff, 0xff, 0xff, 0x1f},
		1 << 54:      {0x80, 0x80, 0x80, 0x80, 0x80, 0x80, 0x80, 0x40},
		1 << 55:      {0x80, 0x80, 0x80, 0x80, 0x80, 0x80, 0x80, 0x80, 0x01},
	} {
		stands(t, "P1801", one(api.Ins{Op: api.OpFix, A: n}), join(head(1), []byte{1}, row))
	}
	for i := range 60 {
		for _, n := range []int{1<<i - 1, 1 << i, 1<<i + 1, -1 << i, -1<<i - 1, -1<<i + 1} {
			stands(t, "P1801", one(api.Ins{Op: api.OpFix, A: n}), join(head(1), []byte{1}, plainSigned(n)))
		}
	}
}

// farOps are numbers that are none of an instruction; cut down to a byte some would be.
func farOps() []int {
	return []int{-1, -11, 23, 29, 76, 127, 128, 255, 256, 256 + 11, 256 + 1, 512 + 30, 1<<32 + 11, -256 + 11, least, least + 1, greatest}
}

func someOperands() []int {
	return []int{
		0, 1, 2, 127, 128, 255, 256, 16383, 16384, 2097150, 2097151, 2097152, 1 << 32, 1<<32 + 5, mostFix - 1, mostFix, mostFix + 1, greatest - 1, greatest,
		-1, -2, -127, -128, -2097151, -1 << 32, leastFix + 1, leastFix, leastFix - 1, least + 1, least,
	}
}

func TestP1802Operands(t *testing.T) {
	for op := -5; op <= 300; op++ {
		for _, a := range someOperands() {
			p := one(api.Ins{Op: op, A: a}, api.Ins{Op: 11})
			row, good := plainOperand(op, a)
			if good {
				stands(t, "P1802", p, join(head(2), []byte{byte(op)}, row, []byte{11}))
			} else {
				misshapen(t, "P1802", p)
			}
		}
	}
	for _, op := range farOps() {
		misshapen(t, "P1802", one(api.Ins{Op: op}))
	}
}

// The table's instructions, each by its name: what its operand is.
func TestP1802Names(t *testing.T) {
	numbers := []int{api.OpChar, api.OpImm, api.OpText, api.OpLocal, api.OpSetLocal, api.OpCaptured, api.OpGlobal, api.OpSetGlobal, api.OpJump, api.OpBranch, api.OpClosure, api.OpCall, api.OpTail}
	for _, op := range numbers {
		stands(t, "P1802", one(api.Ins{Op: op, A: 2097151}), join(head(1), []byte{byte(op), 0xff, 0xff, 0x7f}))
		misshapen(t, "P1802", one(api.Ins{Op: op, A: 2097152}))
		misshapen(t, "P1802", one(api.Ins{Op: op, A: -1}))
	}
	none := []int{api.OpPop, api.OpDup, api.OpSwap, api.OpReturn, api.OpCallCC, api.OpHalt, api.OpError}
	for op := api.OpCons; op <= api.OpOut; op++ {
		none = append(none, op)
	}
	for _, op := range none {
		stands(t, "P1802", one(api.Ins{Op: op}), join(head(1), []byte{byte(op)}))
		misshapen(t, "P1802", one(api.Ins{Op: op, A: 1}))
		misshapen(t, "P1802", one(api.Ins{Op: op, A: -1}))
	}
}

func TestP1802Floats(t *testing.T) {
	for a, row := range map[int][]byte{
		0:                   {0, 0, 0, 0, 0, 0, 0, 0},
		1:                   {1, 0, 0, 0, 0, 0, 0, 0},
		-1:                  {0xff, 0xff, 0xff, 0xff, 0xff, 0xff, 0xff, 0xff},
		0x0102030405060708:  {8, 7, 6, 5, 4, 3, 2, 1},
		4607182418800017408: {0, 0, 0, 0, 0, 0, 0xf0, 0x3f},
		greatest:            {0xff, 0xff, 0xff, 0xff, 0xff, 0xff, 0xff, 0x7f},
		least:               {0, 0, 0, 0, 0, 0, 0, 0x80},
		least + 0x80:        {0x80, 0, 0, 0, 0, 0, 0, 0x80},
	} {
		stands(t, "P1802", one(api.Ins{Op: api.OpFlo, A: a}), join(head(1), []byte{5}, row))
	}
}

// limit is one of a program's numbers: what programs have it, where it stands in their bytes, and from where to where it goes.
type limit struct {
	name      string
	with      func(n int) api.Program
	at        int
	low, high int
}

func limits() []limit {
	return []limit{
		{"globals", func(n int) api.Program { return api.Program{Globals: n, Funcs: make([]api.Func, 1)} }, 4, 0, 64},
		{"params", func(n int) api.Program { return api.Program{Funcs: []api.Func{{Params: n}}} }, 7, 0, 8},
		{"locals", func(n int) api.Program { return api.Program{Funcs: []api.Func{{Locals: n}}} }, 8, 0, 64},
		{"captures", func(n int) api.Program { return api.Program{Funcs: []api.Func{{Captures: n}}} }, 9, 0, 64},
		{"texts", func(n int) api.Program {
			return api.Program{Texts: make([][]byte, max(n, 0)), Funcs: make([]api.Func, 1)}
		}, 5, 0, 64},
		{"text", func(n int) api.Program {
			return api.Program{Texts: [][]byte{bytes.Repeat([]byte{0xa7}, max(n, 0))}, Funcs: make([]api.Func, 1)}
		}, 6, 0, 4096},
		{"functions", func(n int) api.Program { return api.Program{Funcs: make([]api.Func, max(n, 0))} }, 6, 1, 64},
		{"code", func(n int) api.Program {
			p := one(make([]api.Ins, max(n, 0))...)
			for i := range p.Funcs[0].Code {
				p.Funcs[0].Code[i].Op = api.OpPop
			}
			return p
		}, 10, 0, 4096},
	}
}

func TestP1803Limits(t *testing.T) {
	for _, l := range limits() {
		for _, n := range []int{l.low, l.low + 1, 2, 7, (l.low + l.high) / 2, l.high - 1, l.high} {
			p := l.with(n)
			row, errno := plainWrite(p)
			if errno != 0 {
				t.Fatalf("P1803: %s %d: the plain words refuse it", l.name, n)
			}
			stands(t, "P1803 "+l.name, p, row)
		}
		misshapen(t, "P1803 "+l.name, l.with(l.high+1))
		misshapen(t, "P1803 "+l.name, l.with(l.high+256))
		if l.low > 0 {
			misshapen(t, "P1803 "+l.name, l.with(l.low-1))
		}
	}
	for _, l := range limits()[:4] {
		for _, n := range []int{-1, -128, 128, 1 << 32, greatest, least, least + 1} {
			misshapen(t, "P1803 "+l.name, l.with(n))
		}
	}
}

// In the bytes a number out of its range is refused where it begins, whatever comes behind it.
func TestP1803LimitsOfBytes(t *testing.T) {
	for _, l := range limits() {
		row, _ := plainWrite(l.with(l.low))
		for _, n := range []int{l.high + 1, l.high + 2, l.high + 128, 1 << 14, 1 << 21, 1 << 32, 1<<32 + 1, 1 << 62, greatest} {
			refused(t, "P1803 "+l.name, join(row[:l.at], plainNumber(uint64(n))), l.at, api.ErrBytes)
			refused(t, "P1803 "+l.name, join(row[:l.at], plainNumber(uint64(n)), make([]byte, 5000)), l.at, api.ErrBytes)
		}
		if l.low > 0 {
			refused(t, "P1803 "+l.name, join(row[:l.at], []byte{0}), l.at, api.ErrBytes)
		}
	}
}

// The four numbers of a function stand in their order, and so do texts and functions.
func TestP1803Order(t *testing.T) {
	stands(t, "P1803", api.Program{
		Globals: 3,
		Texts:   [][]byte{{}, {0, 255}, {128}},
		Funcs: []api.Func{
			{Params: 1, Locals: 2, Captures: 4, Code: []api.Ins{{Op: 75}}},
			{},
			{Params: 8, Locals: 7, Captures: 6, Code: []api.Ins{{Op: 30}, {Op: 2, A: 5}}},
		},
	}, []byte{0x68, 0x74, 0x68, 1, 3, 3, 0, 2, 0, 255, 1, 128, 3, 1, 2, 4, 1, 75, 0, 0, 0, 0, 8, 7, 6, 2, 30, 2, 5})
}
