package frame

import (
	"slices"
	"testing"

	"hearth/api"
	"hearth/table"
)

// waiter is a frame of one function that stands at an instruction, 1, with a depth; its link is a frame.
type waiter struct {
	h       Heap
	p       api.Program
	c       api.Checked
	f       val
	link    val
	closure val
}

// waiterOf is a waiter of 2 locals and 6 slots, with the numbers 0 to 5 in them.
func waiterOf(t testing.TB, h Heap, in api.Ins, depth, shared int) *waiter {
	t.Helper()
	p, c := one(api.Func{Locals: 2, Code: []api.Ins{op(api.OpFix), in, op(api.OpReturn)}}, 6, 3, depth, 3)
	w := &waiter{h: h, p: p, c: c, closure: made(t, h, api.KindClosure, 1, 0), link: made(t, h, api.KindFrame, 3, 8)}
	f, e := New(h, p, c, w.closure, w.link, nil)
	if e != ok {
		t.Fatalf("New: %v", e)
	}
	for i := range 6 {
		h.Set(f, 5+i, fix(i))
	}
	h.SetRaw(f, 3, 1)
	h.SetRaw(f, 4, shared)
	w.f = f
	return w
}

func (w *waiter) needs() ([]int, api.Fault)     { return Needs(w.h, w.p, w.c, w.f) }
func (w *waiter) answer(x val) (val, api.Fault) { return Return(w.h, w.p, w.c, w.f, x) }
func (w *waiter) shape(shared int) shape        { return shape{w.link, w.closure, 1, shared, numbers(0, 5)} }
func (w *waiter) gone(depth, takes int, x val) shape {
	slots := append(numbers(0, 1+depth-takes), x)
	slots = append(slots, many(void(), takes-1)...)
	return shape{w.link, w.closure, 2, 0, append(slots, numbers(2+depth, 5)...)}
}

func TestP2008Needs(t *testing.T) {
	each(t, func(t *testing.T, h Heap) {
		for _, in := range []api.Ins{op(api.OpCall, 0), op(api.OpCall, 1), op(api.OpCall, 3), op(api.OpCallCC), op(api.OpCallCC, 99), op(api.OpCallCC, -1)} {
			w := waiterOf(t, h, in, 4, 0)
			needs(t, "P2008", h, w.p, w.c, w.f)
			for _, shared := range []int{1, -1, 2, 256, 1 << 32, most, least} {
				h.SetRaw(w.f, 4, shared)
				needs(t, "P2008", h, w.p, w.c, w.f, 11)
			}
		}
	})
}

// The size is that of the frame, be it small or great.
func TestP2008Sizes(t *testing.T) {
	each(t, func(t *testing.T, h Heap) {
		for _, slots := range []int{1, 2, 27, 28, 128} {
			p, c := one(api.Func{Code: []api.Ins{op(api.OpCallCC)}}, slots, 1)
			f := made(t, h, api.KindFrame, slots, 0)
			needs(t, "P2008", h, p, c, f)
			h.SetRaw(f, 4, 1)
			needs(t, "P2008", h, p, c, f, 5+slots)
		}
	})
}

// A frame that does not wait is refused, whether it is shared or not.
func TestP2008DoesNotWait(t *testing.T) {
	each(t, func(t *testing.T, h Heap) {
		type stand struct {
			in    api.Ins
			depth int
		}
		stands := []stand{
			{op(api.OpCall, -1), 4}, {op(api.OpCall, -2), 4}, {op(api.OpCall, least), 4}, {op(api.OpCall, most), 4}, {op(api.OpCall, most-1), 4},
			{op(api.OpCall, 4), 4}, {op(api.OpCall, 5), 4}, {op(api.OpCall, 0), 0}, {op(api.OpCall, 1), 1}, {op(api.OpCall, -1), 0}, {op(api.OpCallCC), 0},
			{op(0), 4}, {op(-1), 4}, {op(76), 4}, {op(most), 4},
		}
		for n := api.OpFix; n <= api.OpOut; n++ {
			if n != api.OpCall && n != api.OpCallCC {
				stands = append(stands, stand{op(n, 1), 4})
			}
		}
		for _, x := range stands {
			for shared := range 2 {
				w := waiterOf(t, h, x.in, x.depth, shared)
				refuses(t, "P2008", h, fail(api.ErrCall), w.needs)
				refuses(t, "P2009", h, fail(api.ErrCall), func() (val, api.Fault) { return w.answer(fix(1)) })
				refuses(t, "P2009", h, fail(api.ErrCall), func() (val, api.Fault) { return w.answer(val{}) })
			}
		}
		for _, x := range []stand{{op(api.OpCall, 0), 1}, {op(api.OpCall, 3), 4}, {op(api.OpCall, 1), 2}, {op(api.OpCallCC), 1}} {
			w := waiterOf(t, h, x.in, x.depth, 0)
			needs(t, "P2008", h, w.p, w.c, w.f)
		}
	})
}

// Needs reads the header, the pc and shared, and nothing else.
func TestP2008Reads(t *testing.T) {
	h := arena(t, 40)
	w := waiterOf(t, h, op(api.OpCall, 1), 3, 1)
	for _, i := range []int{1, 2, 5, 6, 7, 8, 9, 10} {
		h.Poke(w.f.N+i, 6)
	}
	h.Poke(w.link.N, 0)
	needs(t, "P2008", h, w.p, w.c, w.f, 11)
	h.Poke(w.f.N+3, 3)
	refuses(t, "P2008", h, wrongAt(w.f.N+3), w.needs)
	h.Poke(w.f.N, 0)
	refuses(t, "P2008", h, wrongAt(w.f.N), w.needs)
}

func TestP2009Itself(t *testing.T) {
	each(t, func(t *testing.T, h Heap) {
		for depth := 1; depth <= 4; depth++ {
			for takes := 1; takes <= depth; takes++ {
				w := waiterOf(t, h, op(api.OpCall, takes-1), depth, 0)
				linked := shapeOf(t, h, w.link)
				returns(t, "P2009", h, w.p, w.c, w.f, char(66), true)
				stands(t, "P2009", h, w.f, w.gone(depth, takes, char(66)))
				stands(t, "P2009", h, w.link, linked)
			}
			w := waiterOf(t, h, op(api.OpCallCC, 3), depth, 0)
			returns(t, "P2009", h, w.p, w.c, w.f, w.closure, true)
			stands(t, "P2009", h, w.f, w.gone(depth, 1, w.closure))
		}
	})
}

func TestP2009Copy(t *testing.T) {
	each(t, func(t *testing.T, h Heap) {
		for depth := 1; depth <= 4; depth++ {
			for takes := 1; takes <= depth; takes++ {
				for _, shared := range []int{1, -1, 2, most, least} {
					w := waiterOf(t, h, op(api.OpCall, takes-1), depth, shared)
					linked := shapeOf(t, h, w.link)
					g := returns(t, "P2009", h, w.p, w.c, w.f, char(66), false)
					stands(t, "P2009", h, g, w.gone(depth, takes, char(66)))
					stands(t, "P2009", h, w.f, w.shape(shared))
					linked.shared = 1
					stands(t, "P2009", h, w.link, linked)
					if b, _ := h.Open(g); b.Kind != api.KindFrame || b.Tag != 0 || b.Size != 11 {
						t.Errorf("P2009: the copy is %v", b)
					}
				}
			}
		}
	})
}

// A frame without a link and without a closure, one that links to itself, the greatest one.
func TestP2009Edges(t *testing.T) {
	each(t, func(t *testing.T, h Heap) {
		for _, slots := range []int{1, 2, 27, 28, 128} {
			p, c := one(api.Func{Locals: slots - 1, Code: []api.Ins{op(api.OpCallCC)}}, slots, 1)
			f := made(t, h, api.KindFrame, slots, 0)
			for i := range slots {
				h.Set(f, 5+i, fix(i))
			}
			h.SetRaw(f, 4, 7)
			for _, link := range []val{null(), f} {
				h.Set(f, 1, link)
				g := returns(t, "P2009", h, p, c, f, imm(2), false)
				stands(t, "P2009", h, g, shape{link, null(), 1, 0, append(numbers(0, slots-2), imm(2))})
				shared := 7
				if link == f {
					shared = 1
				}
				stands(t, "P2009", h, f, shape{link, null(), 0, shared, numbers(0, slots-1)})
			}
			h.SetRaw(f, 4, 0)
			returns(t, "P2009", h, p, c, f, imm(2), true)
			stands(t, "P2009", h, f, shape{f, null(), 1, 0, append(numbers(0, slots-2), imm(2))})
		}
	})
}

// The words are read and set one behind the other, then the link is shared, then the copy goes on.
func TestP2009Order(t *testing.T) {
	each(t, func(t *testing.T, h Heap) {
		w := waiterOf(t, h, op(api.OpCall, 1), 3, 1)
		r := record(h)
		f, k := w.f, w.link
		g := returns(t, "P2009", r, w.p, w.c, f, fix(9), false)
		want := []called{
			{name: "Raw", v: f, i: 3}, {name: "Raw", v: f, i: 4},
			{name: "Make", v: val{Kind: api.KindFrame, N: 6}},
			{name: "Get", v: f, i: 1}, {"Set", g, 1, k},
			{name: "Get", v: f, i: 2}, {"Set", g, 2, w.closure},
			{name: "Raw", v: f, i: 3}, {"SetRaw", g, 3, val{N: 1}},
		}
		for i := range 6 {
			want = append(want, called{name: "Get", v: f, i: 5 + i}, called{"Set", g, 5 + i, fix(i)})
		}
		want = append(want, called{"SetRaw", k, 4, val{N: 1}}, called{"Set", g, 8, fix(9)}, called{"Set", g, 9, void()}, called{"SetRaw", g, 3, val{N: 2}})
		have := slices.DeleteFunc(r.only("Get", "Raw", "Set", "SetRaw", "Make"), func(c called) bool { return c.name == "Get" && c.v == g })
		if !slices.Equal(have, want) {
			t.Errorf("P2009: %v, want %v", have, want)
		}
	})
}

// An answer that may not be put is told behind what Needs tells, and ahead of a copy.
func TestP2009Answers(t *testing.T) {
	h := arena(t, 40)
	for shared := range 2 {
		w := waiterOf(t, h, op(api.OpCall, 1), 3, shared)
		refuses(t, "P2009", h, fail(api.ErrValue), func() (val, api.Fault) { return w.answer(w.f) })
		refuses(t, "P2009", h, fail(api.ErrValue), func() (val, api.Fault) { return w.answer(val{}) })
		box := made(t, h, api.KindBox, 0, 0)
		h.Poke(box.N, 5)
		h.Poke(w.f.N+1, 6)
		h.Poke(w.link.N, 6)
		refuses(t, "P2009", h, wrongAt(box.N), func() (val, api.Fault) { return w.answer(box) })
		h.Poke(w.f.N+3, 9)
		refuses(t, "P2009", h, wrongAt(w.f.N+3), func() (val, api.Fault) { return w.answer(box) })
	}
}

// Where there is no room for a copy nothing has changed; a frame that is not shared needs none.
func TestP2009Full(t *testing.T) {
	h := arena(t, 6)
	w, x := waiterOf(t, h, op(api.OpCall, 1), 3, 1), waiterOf(t, h, op(api.OpCall, 1), 3, 0)
	for e := ok; e == ok; {
		_, e = h.Make(api.KindFrame, 6, 0)
	}
	for range 3 {
		refuses(t, "P2009", h, fail(api.ErrFull), func() (val, api.Fault) { return w.answer(fix(1)) })
	}
	refuses(t, "P2009", h, fail(api.ErrValue), func() (val, api.Fault) { return w.answer(val{}) })
	returns(t, "P2009", h, x.p, x.c, x.f, fix(1), true)
	stands(t, "P2009", h, x.f, x.gone(3, 2, fix(1)))
}

// A frame that goes on itself has none of its other words looked at.
func TestP2009ItselfCorrupt(t *testing.T) {
	h := arena(t, 40)
	w := waiterOf(t, h, op(api.OpCall, 1), 3, 0)
	for _, i := range []int{1, 2, 5, 6, 7, 8, 9, 10} {
		h.Poke(w.f.N+i, 6)
	}
	h.Poke(w.link.N, 6)
	returns(t, "P2009", h, w.p, w.c, w.f, fix(9), true)
	for i, want := range []int{6, 6, 2, 0, 6, 6, 6, 8 * 9, 8*3 + 2, 6} {
		if have, _ := h.Peek(w.f.N + 1 + i); have != want {
			t.Errorf("P2009: word %d is %d, want %d", 1+i, have, want)
		}
	}
}

// Each wrong word of a frame that is copied is told, the first one by their order; the frame stays as it is.
func TestP2009CopyCorrupt(t *testing.T) {
	words := []int{1, 2, 5, 6, 7, 8, 9, 10}
	for n, i := range words {
		h := arena(t, 40)
		w := waiterOf(t, h, op(api.OpCall, 1), 3, 1)
		for _, j := range words[n:] {
			h.Poke(w.f.N+j, 6)
		}
		h.Poke(w.link.N, 6)
		old := wordsOf(h, w.f.N, 11)
		if g, e := w.answer(fix(9)); g != (val{}) || e != wrongAt(w.f.N+i) {
			t.Errorf("P2009: word %d is wrong: %v, %v", i, g, e)
		}
		if !slices.Equal(old, wordsOf(h, w.f.N, 11)) {
			t.Errorf("P2009: word %d is wrong: the frame has changed", i)
		}
		if linked, _ := h.Peek(w.link.N + 4); linked != 0 {
			t.Errorf("P2009: word %d is wrong: the link is shared", i)
		}
	}
	h := arena(t, 40)
	w := waiterOf(t, h, op(api.OpCall, 1), 3, 1)
	h.Poke(w.link.N, 6)
	if g, e := w.answer(fix(9)); g != (val{}) || e != wrongAt(w.link.N) {
		t.Errorf("P2009: the link's header is wrong: %v, %v", g, e)
	}
}

// wordsOf are words of the arena.
func wordsOf(h *table.Heap, at, n int) []int { return h.Dump().Words[at : at+n] }

// Locals below 0 leave a view that Finish refuses: what was done ahead of it stays done, in the order that the chapter has.
func TestP2009LocalsBelowNone(t *testing.T) {
	each(t, func(t *testing.T, h Heap) {
		w := waiterOf(t, h, op(api.OpCall, 1), 3, 0)
		w.p.Funcs[0].Locals = -1
		needs(t, "P2008", h, w.p, w.c, w.f)
		refuses(t, "P2009", h, fail(api.ErrArg), func() (val, api.Fault) { return w.answer(fix(1)) })
		Share(h, w.f)
		needs(t, "P2008", h, w.p, w.c, w.f, 11)
		if g, e := w.answer(fix(1)); g != (val{}) || e != fail(api.ErrArg) {
			t.Errorf("P2009: %v, %v", g, e)
		}
		stands(t, "P2009", h, w.f, w.shape(1))
	})
}

// chain is frames that wait, each linked to the one ahead of it; the local 0 of each is its number.
func chain(t testing.TB, h Heap, p api.Program, c api.Checked, n int) list {
	t.Helper()
	k := made(t, h, api.KindClosure, 0, 0)
	link := null()
	var out list
	for i := range n {
		f, e := New(h, p, c, k, link, list{fix(i)})
		if e != ok {
			t.Fatalf("New: %v", e)
		}
		h.Set(f, 7, fix(100+i)) // below the operands
		h.SetRaw(f, 3, 1)
		out, link = append(out, f), f
	}
	return out
}

// chained is the program of a chain: at 1 it waits with 3 on the stack, of which 2 are the call's.
func chained() (api.Program, api.Checked) {
	return one(api.Func{Params: 1, Locals: 2, Code: []api.Ins{op(api.OpFix), op(api.OpCall, 1), op(api.OpReturn)}}, 5, 2, 3, 2)
}

// A shared frame may be returned into again and again, and so may all that lies below it: each way down meets the same locals and the same stack.
func TestP2010AgainAndAgain(t *testing.T) {
	each(t, func(t *testing.T, h Heap) {
		const deep, ways = 60, 7
		p, c := chained()
		frames := chain(t, h, p, c, deep)
		var old []shape
		for _, f := range frames {
			old = append(old, shapeOf(t, h, f))
		}
		top := frames[deep-1]
		answers(t, "P2010", Share(h, top), ok)
		met := map[val]bool{}
		for way := range ways {
			to := top
			for i := deep - 1; i >= 0; i-- {
				g := returns(t, "P2010", h, p, c, to, fix(1000*way+i), false)
				if to != frames[i] || met[g] {
					t.Fatalf("P2010: way %d, frame %d: into %v, on in %v", way, i, to, g)
				}
				met[g] = true
				stands(t, "P2010", h, g, shape{old[i].link, old[i].closure, 2, 0, list{fix(i), void(), fix(100 + i), fix(1000*way + i), void()}})
				if i > 0 { // the next one is shared ahead of anything that is returned into it
					needs(t, "P2010", h, p, c, old[i].link, 10)
				}
				turn(t, h, p, c, g)
				to, _ = h.Get(g, 1)
			}
			if to != null() {
				t.Errorf("P2010: way %d ends at %v", way, to)
			}
		}
		for i, f := range frames {
			old[i].shared = 1
			stands(t, "P2010", h, f, old[i])
		}
	})
}

// turn writes all over the frame in which a run has gone on.
func turn(t testing.TB, h Heap, p api.Program, c api.Checked, g val) {
	t.Helper()
	v, e := Open(h, p, c, g)
	answers(t, "P2010", e, ok)
	h.Set(g, 5, imm(2))
	h.Set(g, 6, imm(2))
	answers(t, "P2010", Finish(h, v, 2, list{imm(2)}, 1), ok)
}

// What is not shared goes on itself: where nothing was shared no frame is made.
func TestP2010NotShared(t *testing.T) {
	each(t, func(t *testing.T, h Heap) {
		p, c := chained()
		frames := chain(t, h, p, c, 20)
		next := made(t, h, api.KindBox, 0, 0)
		for _, f := range slices.Backward(frames) {
			returns(t, "P2010", h, p, c, f, fix(1), true)
			if n, _ := h.Raw(f, 4); n != 0 {
				t.Errorf("P2010: %v is shared", f)
			}
		}
		old, _ := h.Open(next)
		if b, _ := h.Open(made(t, h, api.KindBox, 0, 0)); b.Serial != old.Serial+1 {
			t.Errorf("P2010: frames were made: %d, %d", old.Serial, b.Serial)
		}
	})
}

// A copy is not shared: it goes on itself, but what it links to does not.
func TestP2010CopiesAreNotShared(t *testing.T) {
	each(t, func(t *testing.T, h Heap) {
		p, c := chained()
		frames := chain(t, h, p, c, 2)
		Share(h, frames[1])
		g := returns(t, "P2010", h, p, c, frames[1], fix(1), false)
		h.SetRaw(g, 3, 1)
		needs(t, "P2010", h, p, c, g)
		returns(t, "P2010", h, p, c, g, fix(2), true)
		link, _ := h.Get(g, 1)
		returns(t, "P2010", h, p, c, link, fix(3), false)
	})
}

// What the slots refer to is not copied: both frames see it as it is.
func TestP2010OneHeap(t *testing.T) {
	each(t, func(t *testing.T, h Heap) {
		p, c := chained()
		f := chain(t, h, p, c, 1)[0]
		box := made(t, h, api.KindBox, 0, 0)
		h.Set(f, 5, box)
		Share(h, f)
		g := returns(t, "P2010", h, p, c, f, fix(1), false)
		h.Set(box, 1, fix(77))
		i := returns(t, "P2010", h, p, c, f, fix(1), false)
		for _, x := range []val{f, g, i} {
			b, _ := h.Get(x, 5)
			if n, e := h.Get(b, 1); n != fix(77) || e != ok {
				t.Errorf("P2010: %v has %v, %v", x, n, e)
			}
		}
	})
}
