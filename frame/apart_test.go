package frame

import (
	"reflect"
	"slices"
	"sync"
	"testing"

	"hearth/api"
	"hearth/graph"
	"hearth/object"
	"hearth/table"
)

// face is a call of the package that goes well, with the values that it puts.
type face struct {
	name string
	put  list
	call func(h Heap) (any, api.Fault)
}

// faces are all calls of the package, over a heap in which a frame waits that is shared.
func faces(w *waiter, box val) []face {
	v := View{Frame: w.f, Locals: 2, Pc: 1, Depth: 3}
	made := func(h Heap) (any, api.Fault) {
		p := api.Program{Funcs: slices.Clone(w.p.Funcs)}
		p.Funcs[0].Params = 2
		return New(h, p, w.c, w.closure, w.link, list{box, fix(1)})
	}
	return []face{
		{"New", list{box}, made},
		{"Open", nil, func(h Heap) (any, api.Fault) { return Open(h, w.p, w.c, w.f) }},
		{"Operands", nil, func(h Heap) (any, api.Fault) {
			x, e := Operands(h, v, 3)
			return len(x), e
		}},
		{"Finish", list{box}, func(h Heap) (any, api.Fault) { return false, Finish(h, v, 3, list{box, fix(1)}, 2) }},
		{"Wait", nil, func(h Heap) (any, api.Fault) { return false, Wait(h, v, 2) }},
		{"Share", nil, func(h Heap) (any, api.Fault) { return false, Share(h, w.f) }},
		{"Needs", nil, func(h Heap) (any, api.Fault) {
			x, e := Needs(h, w.p, w.c, w.f)
			return len(x), e
		}},
		{"Return", list{box}, func(h Heap) (any, api.Fault) { return Return(h, w.p, w.c, w.f, box) }},
		{"Return of its own", list{box}, func(h Heap) (any, api.Fault) {
			h.(*recorder).Heap.SetRaw(w.f, 4, 0)
			return Return(h, w.p, w.c, w.f, box)
		}},
	}
}

// A fault of any call of the heap is answered, beside nothing, and nothing more is done.
func TestFaultsOfTheHeap(t *testing.T) {
	each(t, func(t *testing.T, h Heap) {
		count := len(faces(waiterOf(t, h, op(api.OpCall, 1), 3, 1), null()))
		for n := range count {
			for _, f := range []api.Fault{wrongAt(77), fail(api.ErrFull), fail(api.ErrRef), fail(api.ErrWord)} {
				asked := 0
				for ; faulty(t, h, n, asked, f); asked++ {
				}
				if asked == 0 {
					t.Errorf("call %d asks nothing of the heap", n)
				}
			}
		}
	})
}

// faulty makes one of the faces over a heap that answers a fault to its call number at; false: so many calls are not made.
func faulty(t *testing.T, h Heap, n, at int, f api.Fault) bool {
	t.Helper()
	w, box := waiterOf(t, h, op(api.OpCall, 1), 3, 1), made(t, h, api.KindBox, 0, 0)
	r := &recorder{Heap: h, at: at, fault: f}
	x := faces(w, box)[n]
	answer, e := x.call(r)
	if len(r.calls) <= at {
		answers(t, x.name, e, ok)
		return false
	}
	want := f
	if last := r.calls[at]; last.name == "Open" && slices.Contains(x.put, last.v) && f.Err != api.ErrCorrupt {
		want = fail(api.ErrValue)
	}
	if e != want || !reflect.ValueOf(answer).IsZero() {
		t.Errorf("%s: with %v at the call %v: %v, %v, want %v", x.name, f, r.calls[at], answer, e, want)
	}
	if len(r.calls) != at+1 {
		t.Errorf("%s: behind %v: %v", x.name, f, r.calls[at+1:])
	}
	return true
}

// A heap that New refused is nil, and one that nobody made has no heap below it, or no space: no call panics there.
func TestNoCallPanicsWithoutAHeap(t *testing.T) {
	refused, _ := table.New(0)
	none, _ := object.New(0)
	var nobody *graph.Heap
	p, c := chained()
	for i, h := range []Heap{nil, refused, none, nobody, &table.Heap{}, &object.Heap{}, &graph.Heap{}, &recorder{}, (*recorder)(nil)} {
		for _, v := range []val{ref(0), ref(1), ref(most), null(), {}} {
			made, e1 := New(h, p, c, v, v, list{v})
			view, e2 := Open(h, p, c, v)
			x, e3 := Operands(h, View{Frame: v}, 0)
			sizes, e4 := Needs(h, p, c, v)
			to, e5 := Return(h, p, c, v, v)
			if made != (val{}) || view != (View{}) || len(x)+len(sizes) > 0 || to != (val{}) {
				t.Errorf("rule 2: heap %d: %v, %v, %v, %v, %v", i, made, view, x, sizes, to)
			}
			for _, e := range []api.Fault{e1, e2, e3, e4, e5, Finish(h, View{Frame: v}, 0, list{v}, 0), Wait(h, View{Frame: v}, 0), Share(h, v)} {
				answers(t, "rule 1", e, fail(api.ErrRef))
			}
			answers(t, "rule 1", Wait(h, View{Frame: v}, 1), fail(api.ErrArg))
		}
	}
}

// wild are numbers from all over.
func wild() []int {
	return []int{0, 1, -1, 2, 5, 8, 128, 129, most, most - 1, least, least + 1, 1 << 62, -1 << 62}
}

// No numbers at all make a call panic; what is answered with an error stands beside nothing.
func TestWildNumbers(t *testing.T) {
	each(t, func(t *testing.T, h Heap) {
		w := waiterOf(t, h, op(api.OpCall, 1), 3, 1)
		zero := func(e api.Fault, x any) {
			t.Helper()
			if e != ok && !reflect.ValueOf(x).IsZero() {
				t.Errorf("rule 2: %v beside %v", x, e)
			}
		}
		for _, a := range wild() {
			for _, b := range wild() {
				for _, n := range wild() {
					x, e := Operands(h, View{w.f, a, a, b, b}, n)
					zero(e, x)
					x, e = Operands(h, View{w.f, n, b, n, a}, n)
					zero(e, x)
					Wait(h, View{ref(a), n, b, n, a}, n)
					Finish(h, View{val{Kind: b, N: a}, n, b, n, a}, n, list{{Kind: a, N: b}}, n)
					p, c := one(api.Func{Params: a, Locals: b, Code: []api.Ins{op(n, a), op(api.OpCall, n)}}, a, b, n)
					v, e := New(h, p, c, w.closure, null(), nil)
					zero(e, v)
					p, c = one(api.Func{Params: n, Locals: a, Code: []api.Ins{op(api.OpCall, b), op(api.OpCall, n)}}, 6, n, b)
					view, e := Open(h, p, c, w.f)
					zero(e, view)
					sizes, e := Needs(h, p, c, w.f)
					zero(e, sizes)
					v, e = Return(h, p, c, w.f, val{Kind: 5, N: n})
					zero(e, v)
				}
			}
		}
	})
}

// What is handed in stays as it is, its spare room too; what is answered is nobody else's.
func TestMemory(t *testing.T) {
	each(t, func(t *testing.T, h Heap) {
		w := waiterOf(t, h, op(api.OpCall, 1), 3, 0)
		w.p.Funcs[0].Params = 2
		room := list{fix(1), fix(2), fix(3), fix(4)}
		kept := slices.Clone(room)
		f, e := New(h, w.p, w.c, w.closure, null(), room[:2])
		answers(t, "rule 3", e, ok)
		answers(t, "rule 3", Finish(h, View{Frame: f, Locals: 2, Depth: 3}, 3, room[:1], 0), ok)
		if !slices.Equal(room, kept) {
			t.Errorf("rule 3: %v", room)
		}
		room[0], room[1] = fix(50), fix(51)
		stands(t, "rule 3", h, f, shape{null(), w.closure, 0, 0, append(numbers(1, 2), fix(1), void(), void(), void())})

		v := View{Frame: w.f, Locals: 2, Depth: 3}
		x, _ := Operands(h, v, 3)
		for i := range x {
			x[i] = val{}
		}
		operands(t, h, v, 3, numbers(2, 4))

		Share(h, w.f)
		p, c := clone(w.p, w.c)
		sizes, _ := Needs(h, p, c, w.f)
		sizes[0] = 99
		needs(t, "rule 3", h, p, c, w.f, 11)
		returns(t, "rule 3", h, p, c, w.f, fix(1), false)
		if !reflect.DeepEqual(p, w.p) || !reflect.DeepEqual(c, w.c) {
			t.Errorf("rule 3: the program has changed: %v, %v", p, c)
		}
	})
}

// clone is a program of one function that shares nothing with p, and what is known of it.
func clone(p api.Program, c api.Checked) (api.Program, api.Checked) {
	f := p.Funcs[0]
	f.Code = slices.Clone(f.Code)
	p.Funcs = []api.Func{f}
	return p, api.Checked{Slots: slices.Clone(c.Slots), Depths: [][]int{slices.Clone(c.Depths[0])}}
}

// Heaps have nothing in common: what is done in one is not seen in another, also when it is done at the same time.
func TestSideBySide(t *testing.T) {
	p, c := chained()
	tops := make([]list, 8)
	var workers sync.WaitGroup
	for n := range tops {
		h := Heap(graph.New())
		if n%2 > 0 {
			h = arena(t, 400)
		}
		workers.Go(func() {
			k, _ := h.Make(api.KindClosure, 0, 0)
			f, _ := New(h, p, c, k, null(), list{fix(n)})
			h.SetRaw(f, 3, 1)
			Share(h, f)
			for way := range 100 {
				g, _ := Return(h, p, c, f, fix(way))
				v, _ := Open(h, p, c, g)
				x, _ := Operands(h, v, 1)
				first, _ := h.Get(g, 5)
				tops[n] = append(tops[n], append(x, first)...)
			}
		})
	}
	workers.Wait()
	for n, have := range tops {
		for way := range 100 {
			if len(have) != 200 || have[2*way] != fix(way) || have[2*way+1] != fix(n) {
				t.Fatalf("rule 4: heap %d, way %d: %v", n, way, have)
			}
		}
	}
}

// A collection that has nothing but the last frame as its root keeps all that a return can still come to, and what is shared stays so.
func TestP2010Collected(t *testing.T) {
	p, c := chained()
	h := graph.New()
	frames := chain(t, h, p, c, 30)
	top := frames[len(frames)-1]
	Share(h, top)
	cont := made(t, h, api.KindCont, 0, 0)
	h.Set(cont, 1, top)
	for way := range 5 {
		to := top
		for i := len(frames) - 1; i >= 0; i-- {
			g := returns(t, "P2010", h, p, c, to, fix(way), false)
			if _, e := h.Collect(list{g, cont}); e != ok {
				t.Fatalf("Collect: %v", e)
			}
			if n, _ := h.Get(g, 5); n != fix(i) {
				t.Errorf("P2010: way %d: local %v in frame %d", way, n, i)
			}
			to, _ = h.Get(g, 1)
		}
	}
}
