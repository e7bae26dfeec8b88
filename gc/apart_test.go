package gc

import (
	"math/rand"
	"runtime/debug"
	"slices"
	"sync"
	"testing"
	"time"

	"hearth/api"
	"hearth/graph"
	"hearth/object"
	"hearth/table"
)

// Heaps without a rule, with wrong words in the end, against a collection of the chapters' words.
func TestP1501ToP1503LongPasts(t *testing.T) {
	told := map[api.Errno]int{}
	var sum api.Report
	for _, n := range []int{2, 5, 12, 20} {
		for seed := range int64(40) {
			x := &past{heap(t, n), rand.New(rand.NewSource(seed))}
			for turn := range 900 {
				x.turn()
				if wrong := turn - 700; wrong > 0 && x.source.Intn(20) == 0 {
					x.poke()
				}
				if turn%15 > 0 {
					continue
				}
				roots := x.roots()
				if x.source.Intn(20) == 0 {
					roots = append(roots, ref(x.source.Intn(x.h.Words())))
				}
				want, wantReport, wantFault := plainCollect(x.h.Dump(), roots)
				r, fault := Collect(x.h, roots)
				if r != wantReport || fault != wantFault {
					t.Fatalf("P1501: %d pages, seed %d, turn %d: Collect(%v) = %v, %v, want %v, %v", n, seed, turn, roots, r, fault, wantReport, wantFault)
				}
				if !sameDump(want, x.h.Dump()) {
					t.Fatalf("P1501: %d pages, seed %d, turn %d: Collect(%v) has left another heap", n, seed, turn, roots)
				}
				if fault.Err == 0 {
					again(t, x.h, roots, r.Kept)
				}
				told[fault.Err]++
				sum.Broken, sum.Cleared, sum.Pruned = sum.Broken+r.Broken, sum.Cleared+r.Cleared, sum.Pruned+r.Pruned
			}
		}
	}
	if told[0] < 3000 || told[21] < 300 || told[33] < 100 || sum.Broken < 300 || sum.Cleared < 500 || sum.Pruned < 500 {
		t.Errorf("what was told: %v, %v", told, sum)
	}
}

// again tells a fault, if behind a collection there is more than P1503 says, or another one finds something to do.
func again(t *testing.T, h *table.Heap, roots []api.Value, kept int) {
	t.Helper()
	d := h.Dump()
	if !slices.Equal(bare(d), parts(d)) {
		t.Fatalf("P1503: behind Collect(%v) the objects without serials are %v, want %v", roots, bare(d), parts(d))
	}
	if r, fault := Collect(h, roots); r != (api.Report{Kept: kept}) || fault.Err != 0 || !sameDump(d, h.Dump()) {
		t.Fatalf("P1503: a second Collect(%v): %v, %v, want Kept %d", roots, r, fault, kept)
	}
}

// The heap as a graph is what a collection of the graph leaves (chapter 10), and the report is the same.
func TestP1502AsTheGraph(t *testing.T) {
	held := 0
	var sum api.Report
	for seed := range int64(80) {
		x := &past{heap(t, 16), rand.New(rand.NewSource(seed))}
		for turn := range 600 {
			x.turn()
			if turn%10 > 0 {
				continue
			}
			roots := x.roots()
			g, fault := x.h.Graph(roots)
			if fault.Err != 0 || graph.Check(g) != api.OK { // keys that stand twice, which no put makes, are no graph's
				continue
			}
			want, wantReport, e := graph.Collect(g)
			r, fault := Collect(x.h, roots)
			got, fault2 := x.h.Graph(roots)
			if e != api.OK || fault.Err != 0 || fault2.Err != 0 || r != wantReport || !graph.Equal(got, want) {
				t.Fatalf("P1502: seed %d, turn %d: %v, %v, want %v; the graph is %v, %v, want %v", seed, turn, r, fault, wantReport, got, fault2, want)
			}
			held++
			sum.Broken, sum.Cleared, sum.Pruned = sum.Broken+r.Broken, sum.Cleared+r.Cleared, sum.Pruned+r.Pruned
		}
	}
	if held < 1000 || sum.Broken < 100 || sum.Cleared < 200 || sum.Pruned < 200 {
		t.Errorf("%d graphs were held against it, %v", held, sum)
	}
}

// twin is a heap in the arena, and one of nodes, which are told the same.
type twin struct {
	h      *table.Heap
	g      *graph.Heap
	source *rand.Rand
	list   []api.Block // the arena's objects with serials
}

func (x *twin) look() {
	x.list = nil
	for b := range x.h.All() {
		if b.Serial > 0 {
			x.list = append(x.list, b)
		}
	}
}

// value is one in the arena, and the same one among nodes; of kinds up to most.
func (x *twin) value(most int) (api.Value, api.Value) {
	if len(x.list) > 0 && x.source.Intn(5) > 0 {
		if b := x.list[x.source.Intn(len(x.list))]; b.Kind <= most {
			return ref(b.At), ref(b.Serial)
		}
	}
	v := fixnum(x.source.Intn(20))
	return v, v
}

// turn tells both heaps the same.
func (x *twin) turn(t *testing.T) {
	t.Helper()
	x.look()
	a, b := x.value(11)
	k, k2 := x.value(10)
	v, v2 := x.value(10)
	var one, two api.Fault
	switch x.source.Intn(4) {
	case 0:
		kind, n := []int{1, 2, 3, 8, 9, 10, 11}[x.source.Intn(7)], x.source.Intn(3)
		if kind != 3 && kind != 11 {
			n = 0
		}
		if size := []int{3, 3, 1 + n, 0, 0, 0, 0, 3, 3, 3, 5 + n}[kind-1]; !x.h.Fits(size) {
			return
		}
		_, one = x.h.Make(kind, n, 0)
		_, two = x.g.Make(kind, n, 0)
	case 1:
		if sizes, _ := x.h.PutNeeds(a, k); !x.h.Fits(sizes...) {
			return
		}
		one, two = x.h.TablePut(a, k, v), x.g.TablePut(b, k2, v2)
	default:
		i := 1 + x.source.Intn(6)
		one, two = x.h.Set(a, i, v), x.g.Set(b, i, v2)
	}
	if (one.Err == 0) != (two.Err == 0) { // the words of a table are none among nodes: the errors may not be one
		t.Fatalf("the heaps stand apart: %v, %v", one, two)
	}
}

// A heap of nodes that is told the same, and collects by itself, stays the same.
func TestP1502BesideAHeapOfNodes(t *testing.T) {
	var sum api.Report
	for seed := range int64(120) {
		x := &twin{heap(t, 12), graph.New(), rand.New(rand.NewSource(seed)), nil}
		for turn := range 800 {
			x.turn(t)
			if turn%50 > 0 {
				continue
			}
			x.look()
			var roots, roots2 values
			for range x.source.Intn(15) {
				v, v2 := x.value(11)
				roots, roots2 = append(roots, v), append(roots2, v2)
			}
			one, fault := Collect(x.h, roots)
			two, fault2 := x.g.Collect(roots2)
			g, _ := x.h.Graph(roots)
			g2, _ := x.g.Graph(roots2)
			if one != two || fault != fault2 || fault.Err != 0 || !graph.Equal(g, g2) {
				t.Fatalf("P1502: seed %d, turn %d: %v, %v, want %v, %v", seed, turn, one, fault, two, fault2)
			}
			sum.Broken, sum.Cleared, sum.Pruned = sum.Broken+one.Broken, sum.Cleared+one.Cleared, sum.Pruned+one.Pruned
		}
	}
	if sum.Broken < 40 || sum.Cleared < 40 || sum.Pruned < 40 {
		t.Errorf("what has let go: %v", sum)
	}
}

func TestP1504RootsAreNotTouched(t *testing.T) {
	h := heap(t, 8)
	a := box(t, h, null)
	w, e := weak(t, h, a, null), eph(t, h, a, a)
	roots := append(make(values, 0, 9), e, w, fixnum(5), e)
	spare := roots[:9]
	for i := 4; i < 9; i++ {
		spare[i] = ref(70 + i)
	}
	old := slices.Clone(spare)
	same := func() {
		t.Helper()
		if !slices.Equal(spare, old) {
			t.Errorf("P1504: Collect has changed its roots: %v, want %v", spare, old)
		}
	}
	with(h, a.N, 7, func() { refuses(t, "P1501", h, corrupt(a.N), roots...) })
	same()
	refuses(t, "P1501", h, api.Fault{Err: 33}, spare...)
	same()
	r, fault := Collect(h, roots)
	if r != (api.Report{Kept: 2, Freed: 1, Broken: 1, Cleared: 1}) || fault.Err != 0 {
		t.Errorf("P1501: %v, %v", r, fault)
	}
	same()
	d := h.Dump()
	clear(spare)
	if !sameDump(d, h.Dump()) {
		t.Errorf("P1504: Collect has kept its roots")
	}
}

// soon makes a call on a stack on which nothing can be deep, and tells a fault, if it takes far longer than going a few times over the greatest heap.
func soon(t *testing.T, call func()) {
	t.Helper()
	defer debug.SetMaxStack(debug.SetMaxStack(1 << 18))
	start := time.Now()
	call()
	if took := time.Since(start); took > 5*time.Second {
		t.Errorf("rule 7: a collection has taken %v", took)
	}
}

// Long lists, and ephemerons and entries that wait for one another, all of which go but for the first few.
func TestP1501DeepHeaps(t *testing.T) {
	h := heap(t, 4096)
	m := thing(t, h, 10, 0, 0)
	list, last := null, null
	for range 9000 {
		k := thing(t, h, 2, 0, 0, last)
		list = thing(t, h, 1, 0, 0, eph(t, h, k, last), list)
		put(t, h, m, k, last)
		last = k
	}
	soon(t, func() {
		r, fault := Collect(h, values{m, list, last})
		if r != (api.Report{Kept: 27001}) || fault.Err != 0 {
			t.Errorf("P1501: %v, %v", r, fault)
		}
		r, fault = Collect(h, values{m, list})
		if r != (api.Report{Kept: 18001, Freed: 9000, Cleared: 9000, Pruned: 9000}) || fault.Err != 0 {
			t.Errorf("P1501: %v, %v", r, fault)
		}
		r, fault = Collect(h, nil)
		if r != (api.Report{Freed: 18001}) || fault.Err != 0 || len(all(h)) != 0 {
			t.Errorf("P1501: %v, %v", r, fault)
		}
	})
}

func TestP1504HeapsSideBySide(t *testing.T) {
	alike := make([]bool, 8)
	var workers sync.WaitGroup
	for w := range alike {
		x := &past{heap(t, 8), rand.New(rand.NewSource(int64(w)))}
		workers.Go(func() {
			alike[w] = true
			for range 150 {
				for range 5 {
					x.turn()
				}
				roots := x.roots()
				want, wantReport, wantFault := plainCollect(x.h.Dump(), roots)
				r, fault := Collect(x.h, roots)
				alike[w] = alike[w] && r == wantReport && fault == wantFault && sameDump(want, x.h.Dump())
			}
		})
	}
	workers.Wait()
	if slices.Contains(alike, false) {
		t.Errorf("P1504: heaps side by side: %v", alike)
	}
}

// A heap that New refused is nil, and one that nobody made has no heap below it, or no space: no call panics there.
func TestNoCallPanicsWithoutAHeap(t *testing.T) {
	refused, _ := table.New(0)
	for _, h := range []*table.Heap{refused, {}, {Heap: &object.Heap{}}} {
		for _, roots := range []values{nil, {}, {null, fixnum(0), char(65)}} {
			if r, fault := Collect(h, roots); r != (api.Report{}) || fault != (api.Fault{}) {
				t.Errorf("rule 1: Collect(%v) without a heap: %v, %v", roots, r, fault)
			}
		}
		for _, v := range append(strangers(), ref(0), ref(1)) {
			if r, fault := Collect(h, values{null, v}); r != (api.Report{}) || fault != (api.Fault{Err: 33}) {
				t.Errorf("rule 1: Collect(%v) without a heap: %v, %v", v, r, fault)
			}
		}
	}
}
