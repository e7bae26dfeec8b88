package object

import (
	"slices"
	"sync"
	"testing"

	"hearth/api"
)

func TestP901ToP908LongPasts(t *testing.T) {
	for _, n := range []int{1, 2, 3, 6, 16} {
		for seed := range int64(6) {
			x := begun(made(t, n), n, seed)
			for turn := range 3000 {
				if !x.turn() {
					t.Fatalf("P901 to P908: %d pages, seed %d, turn %d: the heap answers otherwise", n, seed, turn)
				}
				if turn%50 == 0 && !x.alike() {
					t.Fatalf("P901 to P908: %d pages, seed %d, turn %d: the heap is otherwise", n, seed, turn)
				}
			}
			if !x.alike() {
				t.Fatalf("P901 to P908: %d pages, seed %d: the heap is otherwise in the end", n, seed)
			}
		}
	}
}

func TestP909HeapsInTurn(t *testing.T) {
	var all []*past
	for n := 1; n <= 8; n++ {
		all = append(all, begun(made(t, n), n, int64(n)))
	}
	for range 100 {
		for n, x := range all {
			if !x.run(5) {
				t.Fatalf("P909: the heap of %d pages answers otherwise, in turn with others", n+1)
			}
		}
	}
}

func TestP909HeapsSideBySide(t *testing.T) {
	alike := make([]bool, 8)
	var all sync.WaitGroup
	for w := range alike {
		x := begun(made(t, 6), 6, int64(w))
		all.Go(func() { alike[w] = x.run(2000) })
	}
	all.Wait()
	if slices.Contains(alike, false) {
		t.Errorf("P909: heaps side by side: %v", alike)
	}
}

// Whatever stands in the arena, no call panics, and what is no right value is never answered.
func TestP904NoWrongValueGoesFurther(t *testing.T) {
	x := begun(made(t, 4), 4, 77)
	for turn := range 4000 {
		if turn%3 == 0 {
			x.h.Poke(x.source.Intn(256), x.word())
		} else {
			x.make()
		}
		v := x.object()
		i := x.field(v)
		got, fault := x.h.Get(v, i)
		if fault.Err != api.OK {
			if got != (api.Value{}) || fault.Err != api.ErrCorrupt && fault.At != 0 {
				t.Fatalf("P904: Get(%v, %d) = %v, %v", v, i, got, fault)
			}
			continue
		}
		if w := got.N*8 + got.Kind - 1; !x.h.Right(v.N, i, w) {
			t.Fatalf("P904: Get(%v, %d) = %v, which is no right value there", v, i, got)
		}
	}
}

// A heap that New refused is nil, and one that nobody made has no space: no call panics there.
func TestNoCallPanicsWithoutAHeap(t *testing.T) {
	refused, _ := New(0)
	for _, h := range []*Heap{refused, {}} {
		for kind, want := range map[int]api.Errno{1: 20, 4: 24, 10: 20, 14: 24} {
			if v, fault := h.Make(kind, 0, 0); v != (api.Value{}) || fault != no(want) {
				t.Errorf("rule 1: %v: Make(%d, 0, 0) = %v, %v", h, kind, v, fault)
			}
		}
		if v, fault := h.MakeText(nil); v != (api.Value{}) || fault != no(20) {
			t.Errorf("rule 1: %v: MakeText() = %v, %v", h, v, fault)
		}
		if v, fault := h.MakeText(make([]byte, 4097)); v != (api.Value{}) || fault != no(24) {
			t.Errorf("rule 1: %v: MakeText(too much) = %v, %v", h, v, fault)
		}
		if b, fault := h.Open(ref(0)); b != (api.Block{}) || fault != no(30) {
			t.Errorf("rule 1: %v: Open = %v, %v", h, b, fault)
		}
		if x, fault := h.Get(ref(0), 1); x != (api.Value{}) || fault != no(30) {
			t.Errorf("rule 1: %v: Get = %v, %v", h, x, fault)
		}
		if x, fault := h.Raw(ref(0), 1); x != 0 || fault != no(30) {
			t.Errorf("rule 1: %v: Raw = %v, %v", h, x, fault)
		}
		if s, fault := h.Text(ref(0)); len(s) != 0 || fault != no(30) {
			t.Errorf("rule 1: %v: Text = %v, %v", h, s, fault)
		}
		if h.Set(ref(0), 1, null) != no(30) || h.SetRaw(ref(0), 1, 1) != no(30) || h.Right(0, 1, 8) {
			t.Errorf("rule 1: %v has an object", h)
		}
	}
}

// A panic that carries no fault is a mistake of the program: it is not told as a fault.
func TestOnlyFaultsAreCaught(t *testing.T) {
	defer func() {
		if r := recover(); r != "a mistake" {
			t.Errorf("what goes on is %v", r)
		}
	}()
	fault := caught("a mistake")
	t.Errorf("a panic of another kind is told as %v", fault)
}
