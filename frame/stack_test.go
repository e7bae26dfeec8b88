package frame

import (
	"slices"
	"testing"

	"hearth/api"
)

// stacked is a frame of these slots, and a view of it.
func stacked(t testing.TB, h Heap, locals, depth int, slots ...val) View {
	t.Helper()
	f := made(t, h, api.KindFrame, len(slots), 7)
	for i, x := range slots {
		if e := h.Set(f, 5+i, x); e != ok {
			t.Fatalf("slot %d: %v", i, e)
		}
	}
	h.SetRaw(f, 3, 44)
	return View{Frame: f, Func: -9, Locals: locals, Pc: -8, Depth: depth}
}

// numbers are the fixnums from a to b.
func numbers(a, b int) list {
	var out list
	for n := a; n <= b; n++ {
		out = append(out, fix(n))
	}
	return out
}

// operands tells a fault, if the operands are others.
func operands(t testing.TB, h Heap, v View, n int, want list) {
	t.Helper()
	idle(t, "P2004", h, func() {
		if have, e := Operands(h, v, n); !slices.Equal(have, want) || e != ok {
			t.Errorf("P2004: Operands(%v, %d) = %v, %v, want %v", v, n, have, e, want)
		}
	})
}

func TestP2004Operands(t *testing.T) {
	each(t, func(t *testing.T, h Heap) {
		const size = 7
		for locals := range size + 1 {
			for depth := range size - locals + 1 {
				v := stacked(t, h, locals, depth, numbers(0, size-1)...)
				for n := range depth + 1 {
					operands(t, h, v, n, numbers(locals+depth-n, locals+depth-1))
				}
			}
		}
	})
}

func TestP2004Greatest(t *testing.T) {
	each(t, func(t *testing.T, h Heap) {
		all := numbers(0, 127)
		operands(t, h, stacked(t, h, 64, 64, all...), 64, all[64:])
		operands(t, h, stacked(t, h, 0, 128, all...), 128, all)
		operands(t, h, stacked(t, h, 128, 0, all...), 0, nil)
		operands(t, h, stacked(t, h, 0, 0), 0, nil)
	})
}

// taker is a call that takes n values from a frame's stack.
type taker struct {
	promise string
	take    func(h Heap, v View, n int) api.Fault
}

func takers() []taker {
	return []taker{
		{"P2004", func(h Heap, v View, n int) api.Fault {
			_, e := Operands(h, v, n)
			return e
		}},
		{"P2005", func(h Heap, v View, n int) api.Fault { return Finish(h, v, n, nil, 3) }},
		{"P2006", Wait},
	}
}

// taking is a call of a taker, and what is wrong with it.
type taking struct {
	v    View
	n    int
	want api.Errno
}

// How many are taken is asked first, then the frame, then whether the view fits it.
func TestTakingErrors(t *testing.T) {
	each(t, func(t *testing.T, h Heap) {
		v := stacked(t, h, 2, 3, numbers(0, 5)...)
		vector, nothing := made(t, h, api.KindVector, 6, 7), ref(1<<40)
		at := func(f val, locals, depth int) View { return View{Frame: f, Locals: locals, Depth: depth} }
		for _, x := range []taking{
			{v, -1, api.ErrArg}, {v, 4, api.ErrArg}, {v, most, api.ErrArg}, {v, least, api.ErrArg},
			{at(nothing, 2, 3), 4, api.ErrArg}, {at(nothing, 2, 3), -1, api.ErrArg}, {at(nothing, -2, -3), 0, api.ErrArg},
			{at(vector, 2, 3), 4, api.ErrArg}, {at(v.Frame, 2, -1), 0, api.ErrArg}, {at(v.Frame, 2, -1), -1, api.ErrArg}, {at(v.Frame, 2, least), 0, api.ErrArg},
			{at(nothing, 2, 3), 3, api.ErrRef}, {at(nothing, -1, 3), 3, api.ErrRef}, {at(nothing, most, most), 0, api.ErrRef},
			{at(fix(v.Frame.N), 2, 3), 0, api.ErrRef}, {at(null(), 2, 3), 0, api.ErrRef}, {at(val{}, 0, 0), 0, api.ErrRef}, {View{}, 0, api.ErrRef},
			{at(vector, 2, 3), 3, api.ErrKind}, {at(vector, -1, 9), 9, api.ErrKind}, {at(vector, most, most), most, api.ErrKind},
			{at(v.Frame, -1, 3), 3, api.ErrArg}, {at(v.Frame, -1, 3), 0, api.ErrArg}, {at(v.Frame, least, most), 0, api.ErrArg}, {at(v.Frame, -1, 0), 0, api.ErrArg},
			{at(v.Frame, 2, 5), 0, api.ErrArg}, {at(v.Frame, 4, 3), 3, api.ErrArg}, {at(v.Frame, 7, 0), 0, api.ErrArg}, {at(v.Frame, 0, 7), 7, api.ErrArg},
			{at(v.Frame, most, 0), 0, api.ErrArg}, {at(v.Frame, 0, most), 0, api.ErrArg}, {at(v.Frame, 0, most), most, api.ErrArg},
			{at(v.Frame, most, most), 0, api.ErrArg}, {at(v.Frame, most, 1), 1, api.ErrArg}, {at(v.Frame, 1, most), 1, api.ErrArg},
			{at(v.Frame, most, most), most, api.ErrArg}, {at(v.Frame, 1<<62, 1<<62), 1 << 62, api.ErrArg}, {at(v.Frame, most-2, 5), 5, api.ErrArg},
		} {
			for _, call := range takers() {
				refuses(t, call.promise, h, fail(x.want), func() (struct{}, api.Fault) { return alone(call.take(h, x.v, x.n)) })
			}
			refuses(t, "P2004", h, fail(x.want), func() (list, api.Fault) { return Operands(h, x.v, x.n) })
		}
		for _, call := range takers() { // right up to the last slot
			answers(t, call.promise, call.take(h, at(v.Frame, 2, 4), 4), ok)
			answers(t, call.promise, call.take(h, at(v.Frame, 6, 0), 0), ok)
			answers(t, call.promise, call.take(h, at(v.Frame, 0, 6), 6), ok)
		}
	})
}

// The view's function and pc are asked by nobody, nor is the frame's own pc, its link, its closure.
func TestTakingAsksNoMore(t *testing.T) {
	h := arena(t, 40)
	for _, call := range takers() {
		v := stacked(t, h, 1, 2, numbers(0, 3)...)
		v.Func, v.Pc = most, least
		for _, i := range []int{1, 2, 3, 4, 5, 8} {
			h.Poke(v.Frame.N+i, 7)
		}
		answers(t, call.promise, call.take(h, v, 2), ok)
	}
}

// A header is looked at when n was, and ahead of all else.
func TestTakingCorrupt(t *testing.T) {
	h := arena(t, 40)
	v := stacked(t, h, 2, 3, numbers(0, 5)...)
	box := made(t, h, api.KindBox, 0, 0)
	h.Poke(v.Frame.N, 0)
	h.Poke(box.N, 0)
	for _, call := range takers() {
		refuses(t, call.promise, h, fail(api.ErrArg), func() (struct{}, api.Fault) { return alone(call.take(h, v, 4)) })
		refuses(t, call.promise, h, wrongAt(v.Frame.N), func() (struct{}, api.Fault) { return alone(call.take(h, v, 3)) })
		for _, w := range []View{{Frame: v.Frame, Locals: -1}, {Frame: v.Frame, Locals: 9}} {
			refuses(t, call.promise, h, wrongAt(v.Frame.N), func() (struct{}, api.Fault) { return alone(call.take(h, w, 0)) })
		}
		refuses(t, call.promise, h, wrongAt(box.N), func() (struct{}, api.Fault) { return alone(call.take(h, View{Frame: box}, 0)) })
	}
}

// Of wrong words the first of the operands is told; other words are not looked at.
func TestP2004Corrupt(t *testing.T) {
	h := arena(t, 40)
	v := stacked(t, h, 2, 4, numbers(0, 7)...)
	for _, i := range []int{1, 2, 3, 4, 5, 6, 7, 11, 12} {
		h.Poke(v.Frame.N+i, 6)
	}
	operands(t, h, v, 3, numbers(3, 5))
	h.Poke(v.Frame.N+10, 5)
	refuses(t, "P2004", h, wrongAt(v.Frame.N+10), func() (list, api.Fault) { return Operands(h, v, 3) })
	h.Poke(v.Frame.N+8, 1+8*v.Frame.N) // a frame is no right value
	refuses(t, "P2004", h, wrongAt(v.Frame.N+8), func() (list, api.Fault) { return Operands(h, v, 3) })
	refuses(t, "P2004", h, wrongAt(v.Frame.N+7), func() (list, api.Fault) { return Operands(h, v, 4) })
	refuses(t, "P2004", h, wrongAt(v.Frame.N+10), func() (list, api.Fault) { return Operands(h, v, 1) })
	operands(t, h, v, 0, nil)
}

func TestP2005Finish(t *testing.T) {
	each(t, func(t *testing.T, h Heap) {
		const size = 6
		for locals := range size + 1 {
			for depth := range size - locals + 1 {
				for n := range depth + 1 {
					from := locals + depth - n
					for puts := range size - from + 1 {
						v := stacked(t, h, locals, depth, numbers(0, size-1)...)
						put := numbers(100, 99+puts)
						answers(t, "P2005", Finish(h, v, n, put, puts*1000), ok)
						want := append(numbers(0, from-1), put...)
						want = append(want, many(void(), n-puts)...)
						want = append(want, numbers(len(want), size-1)...)
						stands(t, "P2005", h, v.Frame, shape{null(), null(), puts * 1000, 0, want})
					}
				}
			}
		}
	})
}

// Any pc from 0 on is taken; one below 0 is refused ahead of all else.
func TestP2005Pc(t *testing.T) {
	each(t, func(t *testing.T, h Heap) {
		v := stacked(t, h, 1, 2, numbers(0, 3)...)
		h.SetRaw(v.Frame, 4, 6)
		for _, pc := range []int{0, 1, 5000, most} {
			answers(t, "P2005", Finish(h, v, 0, nil, pc), ok)
			stands(t, "P2005", h, v.Frame, shape{null(), null(), pc, 6, numbers(0, 3)})
		}
		wrong := []View{v, {Frame: ref(1 << 40), Depth: 2}, {Frame: made(t, h, api.KindBox, 0, 0), Depth: 2}, {Frame: v.Frame, Locals: -1, Depth: 2}}
		for _, w := range wrong {
			for _, pc := range []int{-1, least} {
				refuses(t, "P2005", h, fail(api.ErrArg), func() (struct{}, api.Fault) { return alone(Finish(h, w, 1, list{{}}, pc)) })
			}
		}
	})
}

// More than the frame holds is refused, ahead of what is put.
func TestP2005Room(t *testing.T) {
	each(t, func(t *testing.T, h Heap) {
		v := stacked(t, h, 1, 2, numbers(0, 4)...)
		nothing := View{Frame: ref(1 << 40), Locals: 1, Depth: 2}
		for _, x := range []struct {
			n    int
			put  list
			view View
			want api.Errno
		}{
			{0, many(fix(1), 3), v, api.ErrArg}, {0, many(val{}, 3), v, api.ErrArg}, {0, many(val{}, 2), v, api.ErrValue}, {1, many(fix(1), 4), v, api.ErrArg},
			{2, many(fix(1), 5), v, api.ErrArg}, {2, many(val{}, 4), v, api.ErrValue}, {2, many(fix(1), 9999), v, api.ErrArg},
			{2, many(fix(1), 5), nothing, api.ErrRef}, {3, many(fix(1), 5), nothing, api.ErrArg},
		} {
			refuses(t, "P2005", h, fail(x.want), func() (struct{}, api.Fault) { return alone(Finish(h, x.view, x.n, x.put, 0)) })
		}
		answers(t, "P2005", Finish(h, v, 2, numbers(10, 13), 1), ok)
		stands(t, "P2005", h, v.Frame, shape{null(), null(), 1, 0, append(list{fix(0)}, numbers(10, 13)...)})
	})
}

// What stood in the slots that are turned is not looked at: it may be wrong.
func TestP2005Corrupt(t *testing.T) {
	h := arena(t, 40)
	v := stacked(t, h, 1, 3, numbers(0, 5)...)
	for i := 5; i < 11; i++ {
		h.Poke(v.Frame.N+i, 6)
	}
	answers(t, "P2005", Finish(h, v, 2, list{fix(50)}, 1), ok)
	for i, w := range []int{6, 6, 8 * 50, 8*3 + 2, 6, 6} {
		if have, _ := h.Peek(v.Frame.N + 5 + i); have != w {
			t.Errorf("P2005: slot %d is the word %d, want %d", i, have, w)
		}
	}
}

// What is put is set by rising slots, then the void ones, then the pc.
func TestP2005Order(t *testing.T) {
	each(t, func(t *testing.T, h Heap) {
		v := stacked(t, h, 1, 4, numbers(0, 6)...)
		f := v.Frame
		r := record(h)
		answers(t, "P2005", Finish(r, v, 4, numbers(8, 9), 77), ok)
		want := []called{{"Set", f, 6, fix(8)}, {"Set", f, 7, fix(9)}, {"Set", f, 8, void()}, {"Set", f, 9, void()}, {"SetRaw", f, 3, val{N: 77}}}
		if have := r.only("Set", "SetRaw", "Make"); !slices.Equal(have, want) {
			t.Errorf("P2005: %v, want %v", have, want)
		}
		r.calls = nil
		answers(t, "P2006", Wait(r, v, 3), ok)
		want = []called{{"Set", f, 7, void()}, {"Set", f, 8, void()}, {"Set", f, 9, void()}}
		if have := r.only("Set", "SetRaw", "Make"); !slices.Equal(have, want) {
			t.Errorf("P2006: %v, want %v", have, want)
		}
		r.calls = nil
		if _, e := Operands(r, v, 3); e != ok {
			t.Errorf("P2004: %v", e)
		}
		want = []called{{name: "Get", v: f, i: 7}, {name: "Get", v: f, i: 8}, {name: "Get", v: f, i: 9}}
		if have := r.only("Get", "Raw", "Set", "SetRaw", "Make"); !slices.Equal(have, want) {
			t.Errorf("P2004: %v, want %v", have, want)
		}
	})
}

func TestP2006Wait(t *testing.T) {
	each(t, func(t *testing.T, h Heap) {
		const size = 6
		for locals := range size + 1 {
			for depth := range size - locals + 1 {
				for n := range depth + 1 {
					v := stacked(t, h, locals, depth, numbers(0, size-1)...)
					h.SetRaw(v.Frame, 3, -5) // no pc is asked
					answers(t, "P2006", Wait(h, v, n), ok)
					want := append(numbers(0, locals+depth-n-1), many(void(), n)...)
					want = append(want, numbers(len(want), size-1)...)
					stands(t, "P2006", h, v.Frame, shape{null(), null(), -5, 0, want})
				}
			}
		}
	})
}
