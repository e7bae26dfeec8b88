package machine

import (
	"fmt"
	"slices"
	"strconv"
	"strings"
	"testing"

	"hearth/api"
	"hearth/graph"
	"hearth/prim"
)

// What instructions put that make no object.
func TestP2206Values(t *testing.T) {
	fix := func(list ...int) []api.Ins {
		var out []api.Ins
		for _, n := range list {
			out = append(out, op(api.OpFix, n))
		}
		return out
	}
	each(t, func(t *testing.T, make func() prim.Heap) {
		for i, x := range []struct {
			code []api.Ins // the last one is what is looked at; behind it stands one that is not made
			pc   int
			want list
		}{
			{fix(5), 1, list{fixed(5)}},
			{fix(api.MostFix), 1, list{fixed(api.MostFix)}},
			{fix(api.LeastFix, -1), 2, list{fixed(api.LeastFix), fixed(-1)}},
			{codeOf(op(api.OpChar)), 1, list{letter(0)}},
			{codeOf(op(api.OpChar, 0x10FFFF)), 1, list{letter(0x10FFFF)}},
			{codeOf(op(api.OpImm)), 1, list{imm(0)}},
			{codeOf(op(api.OpImm, 4)), 1, list{imm(4)}},
			{codeOf(op(api.OpLocal, 2)), 1, list{void()}},
			{codeOf(fix(8), op(api.OpSetLocal, 1)), 2, nil},
			{codeOf(fix(8), op(api.OpSetLocal, 1), op(api.OpLocal, 1)), 3, list{fixed(8)}},
			{codeOf(fix(8), op(api.OpSetLocal, 1), op(api.OpLocal, 0)), 3, list{void()}},
			{codeOf(fix(8), op(api.OpSetGlobal, 3)), 2, nil},
			{codeOf(fix(8), op(api.OpSetGlobal, 3), op(api.OpGlobal, 3)), 3, list{fixed(8)}},
			{codeOf(fix(1, 2), op(api.OpPop)), 3, list{fixed(1)}},
			{codeOf(fix(1, 2), op(api.OpDup)), 3, list{fixed(1), fixed(2), fixed(2)}},
			{codeOf(fix(1, 2, 3), op(api.OpSwap)), 4, list{fixed(1), fixed(3), fixed(2)}},
			{codeOf(fix(1), op(api.OpPop), op(api.OpJump, 0)), 0, nil},
			{codeOf(fix(1), op(api.OpJump, 2)), 2, list{fixed(1)}},
			{codeOf(fix(1), op(api.OpOut)), 2, list{void()}},
			{codeOf(fix(9, 7, 8), op(api.OpSub)), 4, list{fixed(9), fixed(-1)}},
			{codeOf(fix(9, 7, 8), op(api.OpLess)), 4, list{fixed(9), imm(2)}},
			{codeOf(fix(9), op(api.OpKind)), 2, list{fixed(20)}},
			{codeOf(fix(9), op(api.OpFixChar)), 2, list{letter(9)}},
		} {
			h := make()
			m := started(t, h, plainly(x.code, op(api.OpJump, len(x.code))), len(x.code))
			stack(t, "P2206: "+strconv.Itoa(i), m, x.pc, x.want...)
			if n := count(h); n != 3 {
				t.Errorf("P2206: %d: %d objects", i, n)
			}
		}
	})
}

// A branch goes where it says for false alone.
func TestP2206Branch(t *testing.T) {
	each(t, func(t *testing.T, make func() prim.Heap) {
		for _, x := range []struct {
			in   api.Ins
			want int
		}{
			{op(api.OpImm, 1), 4}, {op(api.OpImm, 0), 2}, {op(api.OpImm, 2), 2}, {op(api.OpImm, 3), 2}, {op(api.OpImm, 4), 2},
			{op(api.OpFix, 0), 2}, {op(api.OpFix, 1), 2}, {op(api.OpChar, 1), 2}, {op(api.OpFlo, 0), 2}, {op(api.OpText, 0), 2},
		} {
			m := started(t, make(), plainly(x.in, op(api.OpBranch, 4), op(api.OpFix), op(api.OpPop), op(api.OpJump, 4)), 2)
			stack(t, fmt.Sprint("P2206: branch of ", x.in), m, x.want)
		}
		back := started(t, make(), plainly(op(api.OpImm, 1), op(api.OpBranch, 0), op(api.OpJump, 2)), 7)
		stack(t, "P2206: a branch back", back, 1, imm(1))
	})
}

// Texts and floats are made anew each time.
func TestP2206Made(t *testing.T) {
	each(t, func(t *testing.T, make func() prim.Heap) {
		for i, text := range []string{"", "hearth", "the flat arena of words"} {
			h := make()
			m := started(t, h, plainly(op(api.OpText, i), op(api.OpText, i), op(api.OpEq), op(api.OpHalt)), 2)
			s := slots(t, h, m.frame)[3:]
			for _, v := range s {
				b, fault := h.Text(v)
				if string(b) != text || fault != fine {
					t.Errorf("P2206: text %d: %q, %v", i, b, fault)
				}
			}
			m.Step()
			stack(t, "P2206: two texts", m, 3, imm(1))
		}
		for bits, want := range map[int]int{0: 0, 1: 1, -1: 0x7FF8000000000001, least: least, most: 0x7FF8000000000001, 0x3FF8000000000000: 0x3FF8000000000000, 0x7FF0000000000000: 0x7FF0000000000000, 0x7FF0000000000001: 0x7FF8000000000001, 0x7FF8000000000000: 0x7FF8000000000001} {
			h := make()
			m := started(t, h, plainly(op(api.OpFlo, bits), op(api.OpFlo, bits), op(api.OpEq), op(api.OpHalt)), 2)
			for _, v := range slots(t, h, m.frame)[3:] {
				b, _ := h.Open(v)
				if have := raw(t, h, v, 1); have != want || b.Kind != api.KindFlo {
					t.Errorf("P2206: flo %x: %x, want %x", bits, have, want)
				}
			}
			m.Step()
			stack(t, "P2206: two floats", m, 3, imm(1))
		}
	})
}

// Closures have their function, and the operands in their order; captured values come from the closure of the frame.
func TestP2206Closures(t *testing.T) {
	each(t, func(t *testing.T, make func() prim.Heap) {
		h := make()
		p := program(
			fn(0, 1, 0, op(api.OpFix, 10), op(api.OpFix, 11), op(api.OpFix, 12), op(api.OpFix, 13), op(api.OpClosure, 2), op(api.OpDup), op(api.OpSetLocal), op(api.OpCall), op(api.OpHalt)),
			fn(0, 0, 0, op(api.OpJump)),
			fn(0, 0, 3, op(api.OpCaptured, 2), op(api.OpCaptured, 0), op(api.OpCaptured, 1), op(api.OpCons), op(api.OpCons), op(api.OpReturn)),
		)
		m := started(t, h, p, 5)
		k := slots(t, h, m.frame)[2]
		stack(t, "P2206: closure", m, 5, fixed(10), k)
		b, _ := h.Open(k)
		if b.Kind != api.KindClosure || b.Tag != 2 || b.Size != 4 || count(h) != 4 {
			t.Errorf("P2206: the closure is %v", b)
		}
		for i, want := range []int{11, 12, 13} {
			if x := word(t, h, k, 1+i); x != fixed(want) {
				t.Errorf("P2206: the captured value %d is %v", i, x)
			}
		}
		for m.Step() {
		}
		tells(t, "P2206", m.Outcome(), done("(13 11 . 12)", 15))
		m = started(t, make(), plainly(op(api.OpClosure), op(api.OpHalt)), 2)
		tells(t, "P2206", m.Outcome(), done("#<closure 0>", 2))
	})
}

// The globals are one for all frames, and each function has its own.
func TestP2206Globals(t *testing.T) {
	each(t, func(t *testing.T, make func() prim.Heap) {
		h := make()
		p := program(
			fn(0, 0, 0, op(api.OpFix, 7), op(api.OpSetGlobal, 2), op(api.OpClosure, 1), op(api.OpCall), op(api.OpPop), op(api.OpGlobal, 3), op(api.OpReturn)),
			fn(0, 0, 0, op(api.OpGlobal, 2), op(api.OpFix, 1), op(api.OpAdd), op(api.OpSetGlobal, 3), op(api.OpImm, 1), op(api.OpReturn)),
		)
		m := started(t, h, p, 12)
		for i, want := range []val{imm(5), imm(5), fixed(7), fixed(8)} {
			if x := word(t, h, m.globals, 1+i); x != want {
				t.Errorf("P2206: the global %d is %v, want %v", i, x, want)
			}
		}
		m.Step()
		tells(t, "P2206", m.Outcome(), done("8", 13))
	})
}

// What goes to the log is told as show tells it; void is put.
func TestP2206Out(t *testing.T) {
	each(t, func(t *testing.T, make func() prim.Heap) {
		twice := plainly(op(api.OpFix, -3), op(api.OpOut), op(api.OpOut), op(api.OpHalt))
		want := done("#!void", 4)
		want.Log = []string{"-3", "#!void"}
		tells(t, "P2206", played(t, make(), twice, 50), want)
		cycle := plainly(op(api.OpFix, 1), op(api.OpImm), op(api.OpCons), op(api.OpSetLocal), op(api.OpLocal), op(api.OpLocal), op(api.OpSetCdr), op(api.OpPop), op(api.OpLocal), op(api.OpDup), op(api.OpOut), op(api.OpPop), op(api.OpReturn))
		want = done("#0=(1 . #0#)", 13)
		want.Log = []string{"#0=(1 . #0#)"}
		tells(t, "P2206", played(t, make(), cycle, 50), want)
		large := plainly(op(api.OpFix, 600), op(api.OpImm), op(api.OpVector), op(api.OpDup), op(api.OpOut), op(api.OpPop), op(api.OpHalt))
		want = done("#<large>", 7)
		want.Log = []string{"#<large>"}
		tells(t, "P2206", played(t, make(), large, 50), want)
	})
}

// The log holds MaxLog texts; one more fails, and nothing has changed.
func TestP2203Log(t *testing.T) {
	h := graph.New()
	m := started(t, h, plainly(op(api.OpImm, 2), op(api.OpOut), op(api.OpPop), op(api.OpJump)), 0)
	for m.outcome.Steps < 4*api.MaxLog+1 {
		if !m.Step() {
			t.Fatalf("P2203: %+v", m.Outcome().End)
		}
	}
	if n := len(m.Outcome().Log); n != api.MaxLog {
		t.Errorf("P2203: %d texts", n)
	}
	needed(t, "P2203", m)
	idle(t, "P2203", h, func() { m.Step() })
	o := m.Outcome()
	if len(o.Log) != api.MaxLog || slices.ContainsFunc(o.Log, func(s string) bool { return s != "#t" }) {
		t.Errorf("P2203: %d texts", len(o.Log))
	}
	o.Log = nil
	tells(t, "P2203", o, failure(api.ErrLog, 0, 4*api.MaxLog+2))
}

// Done leaves the heap as it is: halt, return, a call of a continuation that leads nowhere.
func TestP2206Done(t *testing.T) {
	each(t, func(t *testing.T, make func() prim.Heap) {
		nested := program(
			fn(0, 0, 0, op(api.OpClosure, 1), op(api.OpCall), op(api.OpFix, 3), op(api.OpHalt)),
			fn(0, 0, 0, op(api.OpText, 1), op(api.OpHalt)))
		for i, x := range []struct {
			p     api.Program
			value string
			steps int
		}{
			{plainly(op(api.OpFix, 4), op(api.OpHalt)), "4", 2},
			{plainly(op(api.OpFix, 4), op(api.OpReturn)), "4", 2},
			{plainly(op(api.OpFix, 3), op(api.OpFix, 4), op(api.OpReturn)), "4", 3},
			{nested, `"hearth"`, 4},
		} {
			h := make()
			m := started(t, h, x.p, x.steps-1)
			roots := m.Roots()
			idle(t, "P2206: "+strconv.Itoa(i), h, func() { m.Step() })
			tells(t, "P2206: "+strconv.Itoa(i), m.Outcome(), done(x.value, x.steps))
			if !slices.Equal(m.Roots(), roots) {
				t.Errorf("P2208: %d: the roots are %v, were %v", i, m.Roots(), roots)
			}
		}
	})
}

// What is written, in its order.
func TestP2206Order(t *testing.T) {
	frame, globals := ref(3), ref(1)
	set := func(v val, i int, x val) string { return fmt.Sprint("Set", v, i, x) }
	slot := func(i int, x val) string { return set(frame, 5+i, x) }
	pc := func(n int) string { return fmt.Sprint("SetRaw", frame, 3, n) }
	for i, x := range []struct {
		code []api.Ins
		want []string
	}{
		{codeOf(op(api.OpFix, 4)), []string{slot(3, fixed(4)), pc(1)}},
		{codeOf(op(api.OpFix, 4), op(api.OpSetLocal, 2)), []string{slot(2, fixed(4)), slot(3, void()), pc(2)}},
		{codeOf(op(api.OpFix, 4), op(api.OpSetGlobal, 2)), []string{set(globals, 3, fixed(4)), slot(3, void()), pc(2)}},
		{codeOf(op(api.OpFix, 4), op(api.OpPop)), []string{slot(3, void()), pc(2)}},
		{codeOf(op(api.OpFix, 4), op(api.OpFix, 5), op(api.OpSwap)), []string{slot(3, fixed(5)), slot(4, fixed(4)), pc(3)}},
		{codeOf(op(api.OpText, 1)), []string{fmt.Sprint("MakeText", []byte("hearth")), slot(3, ref(4)), pc(1)}},
		{codeOf(op(api.OpFlo, 9)), []string{"Make5 0 0", fmt.Sprint("SetRaw", ref(4), 1, 9), slot(3, ref(4)), pc(1)}},
		{codeOf(op(api.OpFix, 4), op(api.OpFix, 5), op(api.OpClosure, 1)), []string{"Make6 2 1", set(ref(4), 1, fixed(4)), set(ref(4), 2, fixed(5)), slot(3, ref(4)), slot(4, void()), pc(3)}},
		{codeOf(op(api.OpFix, 4), op(api.OpFix, 5), op(api.OpCons)), []string{"Make1 0 0", set(ref(4), 1, fixed(4)), set(ref(4), 2, fixed(5)), slot(3, ref(4)), slot(4, void()), pc(3)}},
		{codeOf(op(api.OpFix, 4), op(api.OpOut)), []string{slot(3, void()), pc(2)}},
	} {
		s := watch(graph.New())
		m := started(t, s, program(fn(0, 3, 0, x.code, op(api.OpJump, len(x.code))), fn(0, 0, 2, op(api.OpJump))), len(x.code)-1)
		s.forget(-1, fine)
		m.Step()
		if have := s.writes(); !slices.Equal(have, x.want) {
			t.Errorf("P2206: %d: %v, want %v", i, strings.Join(have, "; "), strings.Join(x.want, "; "))
		}
	}
}

// What 30 to 74 fail with behind what they need: where prim.Do tells a runtime error nothing has changed.
func TestP2206Failures(t *testing.T) {
	vec := codeOf(op(api.OpFix, 3), op(api.OpImm), op(api.OpVector))
	each(t, func(t *testing.T, make func() prim.Heap) {
		for i, x := range []struct {
			code  []api.Ins
			errno api.Errno
			n     int
		}{
			{codeOf(op(api.OpFix, 1), op(api.OpFix), op(api.OpRem)), api.ErrDivide, 0},
			{codeOf(vec, op(api.OpFix, 3), op(api.OpVectorRef)), api.ErrIndex, 3},
			{codeOf(vec, op(api.OpFix, -1), op(api.OpFix), op(api.OpVectorSet)), api.ErrIndex, -1},
			{codeOf(op(api.OpText, 1), op(api.OpFix, 6), op(api.OpTextRef)), api.ErrIndex, 6},
			{codeOf(op(api.OpFlo, -1), op(api.OpToFix)), api.ErrRange, 0},
			{codeOf(op(api.OpFix, 0xD800), op(api.OpFixChar)), api.ErrRange, 0xD800},
			{codeOf(op(api.OpFix, -1), op(api.OpImm), op(api.OpVector)), api.ErrRange, -1},
			{codeOf(op(api.OpFix, 1), op(api.OpChar, 1), op(api.OpAdd)), api.ErrType, 2},
			{codeOf(vec, op(api.OpUnbox)), api.ErrType, 1},
			{codeOf(vec, op(api.OpTableCount)), api.ErrType, 1},
		} {
			h := make()
			m := started(t, h, plainly(x.code, op(api.OpHalt)), len(x.code)-1)
			needed(t, "P2203", m)
			idle(t, "P2206: "+strconv.Itoa(i), h, func() {
				if !m.Step() {
					t.Errorf("P2205: %d: no step", i)
				}
			})
			tells(t, "P2206: "+strconv.Itoa(i), m.Outcome(), failure(x.errno, x.n, len(x.code)))
		}
	})
}
