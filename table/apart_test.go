package table

import (
	"math/rand"
	"slices"
	"sync"
	"testing"

	"hearth/api"
	"hearth/graph"
	"hearth/object"
)

func TestP1201ToP1210LongPasts(t *testing.T) {
	for _, n := range []int{2, 3, 5, 8, 16, 40} {
		for seed := range int64(8) {
			x := begun(heap(t, n), n, seed)
			for turn := range 2500 {
				if !x.turn() {
					t.Fatalf("P1201 to P1210: %d pages, seed %d, turn %d: the heap answers otherwise", n, seed, turn)
				}
				if turn%40 == 0 && !x.same() {
					t.Fatalf("P1201 to P1210: %d pages, seed %d, turn %d: the heap is otherwise", n, seed, turn)
				}
			}
			if !x.same() {
				t.Fatalf("P1201 to P1210: %d pages, seed %d: the heap is otherwise in the end", n, seed)
			}
		}
	}
}

func TestP1211HeapsInTurn(t *testing.T) {
	var all []*past
	for n := 2; n <= 9; n++ {
		all = append(all, begun(heap(t, n), n, int64(n)))
	}
	for range 100 {
		for n, x := range all {
			if !x.run(5) {
				t.Fatalf("P1211: the heap of %d pages answers otherwise, in turn with others", n+2)
			}
		}
	}
}

func TestP1211HeapsSideBySide(t *testing.T) {
	alike := make([]bool, 8)
	var all sync.WaitGroup
	for w := range alike {
		x := begun(heap(t, 8), 8, int64(w))
		all.Go(func() { alike[w] = x.run(1000) })
	}
	all.Wait()
	if slices.Contains(alike, false) {
		t.Errorf("P1211: heaps side by side: %v", alike)
	}
}

// pair is a heap of tables and a heap of nodes that are told the same: what stands where is the only difference.
type pair struct {
	t      *testing.T
	h      *Heap
	g      *graph.Heap
	things []int // serials
	tables []int
	source *rand.Rand
	stray  *rand.Rand // says what fills the arena besides
}

// here is a value, whose references are serials, as the arena's heap has it.
func (x *pair) here(v api.Value) api.Value {
	if v.Kind == 2 {
		v.N, _ = x.h.Find(v.N)
	}
	return v
}

// make makes an object in both. In the arena, blocks that belong to nobody are made besides, and freed blocks are taken again.
func (x *pair) make(kind int) {
	for range x.stray.Intn(3) {
		if x.stray.Intn(2) == 0 {
			x.h.Make(13, 0, -1)
		} else {
			x.h.Make(12, 4, -1)
		}
	}
	a, fault := x.h.Make(kind, 0, 0)
	b, _ := x.g.Make(kind, 0, 0)
	block, _ := x.h.Block(a.N)
	if fault.Err != 0 || block.Serial != b.N {
		x.t.Fatalf("Make(%d): %v, serial %d, the node's %d", kind, fault, block.Serial, b.N)
	}
	x.things = append(x.things, b.N)
	if kind == 10 {
		x.tables = append(x.tables, b.N)
	}
}

// sift frees the blocks that belong to nobody, or some of them.
func (x *pair) sift() {
	var keep []int
	for b := range x.h.All() {
		if b.Tag != -1 || x.stray.Intn(3) == 0 {
			keep = append(keep, b.At)
		}
	}
	x.h.Keep(keep)
}

func (x *pair) key() api.Value {
	if x.source.Intn(2) == 0 {
		return ref(x.things[x.source.Intn(len(x.things))])
	}
	return fixnum(x.source.Intn(60))
}

// turn is a call of both heaps on a table; false: they answer otherwise.
func (x *pair) turn() bool {
	m, k, v := ref(x.tables[x.source.Intn(len(x.tables))]), x.key(), x.key()
	switch x.source.Intn(8) {
	case 0:
		x.make([]int{1, 2, 2, 8, 9, 10}[x.source.Intn(6)])
		return true
	case 1:
		a, fault := x.h.TableDelete(x.here(m), x.here(k))
		b, _ := x.g.TableDelete(m, k)
		return fault.Err == 0 && a == b
	case 2:
		a, ok, fault := x.h.TableGet(x.here(m), x.here(k))
		b, there, _ := x.g.TableGet(m, k)
		if there {
			b = x.here(b)
		}
		n, _ := x.h.TableCount(x.here(m))
		want, _ := x.g.TableCount(m)
		return fault.Err == 0 && a == b && ok == there && n == want
	case 3:
		if x.stray.Intn(4) == 0 {
			x.sift()
		}
		return true
	}
	return x.h.TablePut(x.here(m), x.here(k), x.here(v)).Err == 0 && x.g.TablePut(m, k, v).Err == 0
}

// Chapter 10's heap has no places. What is told of tables is the same there.
func TestP1211AsTheHeapOfNodes(t *testing.T) {
	for seed := range int64(12) {
		h := heap(t, 400)
		x := &pair{t: t, h: h, g: graph.New(), source: rand.New(rand.NewSource(seed)), stray: rand.New(rand.NewSource(seed + 100))}
		x.make(10)
		for turn := range 1500 {
			if !x.turn() {
				t.Fatalf("P1211: seed %d, turn %d: the heap answers otherwise than a heap of nodes", seed, turn)
			}
			if turn%50 != 0 {
				continue
			}
			a, fault := h.Graph([]api.Value{x.here(ref(1)), fixnum(4)})
			b, _ := x.g.Graph([]api.Value{ref(1), fixnum(4)})
			if fault.Err != 0 || !graph.Equal(a, b) || graph.Check(a) != api.OK {
				t.Fatalf("P1210: seed %d, turn %d: Graph is otherwise than that of a heap of nodes: %v", seed, turn, fault)
			}
		}
	}
}

// The same puts and deletes, over heaps in which the same serials stand elsewhere.
func TestP1211PlacesAreNothing(t *testing.T) {
	for seed := range int64(12) {
		var all []*pair
		for i := range int64(3) {
			x := &pair{t: t, h: heap(t, 400), g: graph.New(), source: rand.New(rand.NewSource(seed)), stray: rand.New(rand.NewSource(10*seed + i))}
			x.make(10)
			all = append(all, x)
		}
		for turn := range 800 {
			for _, x := range all {
				if !x.turn() {
					t.Fatalf("P1211: seed %d, turn %d: a heap answers otherwise than a heap of nodes", seed, turn)
				}
			}
			a := all[0]
			k := []api.Value{fixnum(turn % 70), ref(a.things[turn%len(a.things)])}[turn%2]
			m := ref(a.tables[turn%len(a.tables)])
			want, _ := a.h.PutNeeds(a.here(m), a.here(k))
			for _, x := range all[1:] {
				if got, fault := x.h.PutNeeds(x.here(m), x.here(k)); fault.Err != 0 || !slices.Equal(got, want) {
					t.Fatalf("P1211: seed %d, turn %d: PutNeeds(%v, %v) = %v, elsewhere %v", seed, turn, m, k, got, want)
				}
			}
		}
		if sameDump(all[0].h.Dump(), all[1].h.Dump()) || sameDump(all[1].h.Dump(), all[2].h.Dump()) {
			t.Errorf("seed %d: nothing stands elsewhere", seed)
		}
		want, _ := all[0].h.Graph(nil)
		for _, x := range all[1:] {
			if got, _ := x.h.Graph(nil); !sameGraph(got, want) {
				t.Errorf("P1211: seed %d: Graph hangs on places", seed)
			}
		}
	}
}

// A heap that New refused is nil, and one that nobody made has no heap below it, or no space: no call panics there.
func TestNoCallPanicsWithoutAHeap(t *testing.T) {
	refused, _ := New(0)
	for _, h := range []*Heap{refused, {}, {&object.Heap{}}} {
		if v, fault := h.MakeTable(); v != nobody || fault != no(20) {
			t.Errorf("rule 1: %v: MakeTable() = %v, %v", h, v, fault)
		}
		for _, m := range append(strangers(), ref(0), fixnum(0), null) {
			if v, ok, fault := h.TableGet(m, null); v != nobody || ok || fault != no(30) {
				t.Errorf("rule 1: %v: TableGet(%v, nil) = %v, %v, %v", h, m, v, ok, fault)
			}
			if fault := h.TablePut(m, null, null); fault != no(30) {
				t.Errorf("rule 1: %v: TablePut(%v, nil, nil) = %v", h, m, fault)
			}
			if ok, fault := h.TableDelete(m, null); ok || fault != no(30) {
				t.Errorf("rule 1: %v: TableDelete(%v, nil) = %v, %v", h, m, ok, fault)
			}
			if n, fault := h.TableCount(m); n != 0 || fault != no(30) {
				t.Errorf("rule 1: %v: TableCount(%v) = %v, %v", h, m, n, fault)
			}
			if list, fault := h.PutNeeds(m, null); len(list) != 0 || fault != no(30) {
				t.Errorf("rule 1: %v: PutNeeds(%v, nil) = %v, %v", h, m, list, fault)
			}
			if n, fault := h.Prune(m, []int{0, 1}); n != 0 || fault != no(30) {
				t.Errorf("rule 1: %v: Prune(%v) = %v, %v", h, m, n, fault)
			}
			if n, fault := h.Node(m); !sameNode(n, api.Node{}) || fault != no(30) {
				t.Errorf("rule 1: %v: Node(%v) = %v, %v", h, m, n, fault)
			}
		}
		if g, fault := h.Graph([]api.Value{ref(0)}); !sameGraph(g, api.Graph{}) || fault != no(33) {
			t.Errorf("rule 1: %v: Graph of a root: %v, %v", h, g, fault)
		}
		if g, fault := h.Graph([]api.Value{null}); len(g.Nodes) != 0 || !slices.Equal(g.Roots, []api.Value{null}) || fault != (api.Fault{}) {
			t.Errorf("rule 1: %v: Graph of nil: %v, %v", h, g, fault)
		}
	}
}

// A panic that carries no fault is a mistake of the program: it is not told as a fault.
func TestOnlyFaultsAreCaught(t *testing.T) {
	defer func() {
		if r := recover(); r != "a mistake" {
			t.Errorf("what goes on is %v", r)
		}
	}()
	fault := caught("a mistake")
	t.Errorf("a panic of another kind is told as %v", fault)
}
