package sweep

import (
	"math/rand"
	"runtime/debug"
	"slices"
	"sync"
	"testing"
	"time"

	"hearth/api"
	"hearth/graph"
	"hearth/mark"
	"hearth/object"
	"hearth/table"
)

// Heaps without a rule, with wrong words in the end, and marks of a marking and others, against a sweep of the chapter's words.
func TestP1401ToP1406LongPasts(t *testing.T) {
	told := map[api.Errno]int{}
	var sum api.Report
	for _, n := range []int{2, 5, 12, 20} {
		for seed := range int64(40) {
			x := &past{heap(t, n), rand.New(rand.NewSource(seed))}
			for turn := range 600 {
				x.turn()
				if wrong := turn - 500; wrong > 0 && x.source.Intn(20) == 0 {
					x.poke()
				}
				if turn%10 > 0 {
					continue
				}
				m, marked := x.marking()
				ahead := newPlain(x.h.Dump()).wrong()
				want, wantReport, wantFault := plainSweep(x.h.Dump(), m)
				r, fault := Sweep(x.h, m)
				if r != wantReport || fault != wantFault {
					t.Fatalf("P1401, P1405: %d pages, seed %d, turn %d: Sweep(%v) = %v, %v, want %v, %v", n, seed, turn, m, r, fault, wantReport, wantFault)
				}
				if !sameDump(want, x.h.Dump()) {
					t.Fatalf("P1402 to P1404: %d pages, seed %d, turn %d: Sweep(%v) has left another heap", n, seed, turn, m)
				}
				for _, at := range newPlain(want).wrong() {
					if marked && !slices.Contains(ahead, at) {
						t.Fatalf("P1406: %d pages, seed %d, turn %d: the word %d is wrong behind Sweep(%v)", n, seed, turn, at, m)
					}
				}
				told[fault.Err]++
				sum.Broken, sum.Cleared, sum.Pruned = sum.Broken+r.Broken, sum.Cleared+r.Cleared, sum.Pruned+r.Pruned
			}
		}
	}
	if told[0] < 3000 || told[21] < 300 || told[1] < 300 || sum.Broken < 1000 || sum.Cleared < 1000 || sum.Pruned < 1000 {
		t.Errorf("what was told: %v, %v", told, sum)
	}
}

// Behind a marking the heap as a graph is what a collection of the graph leaves (chapter 10), and the report is the same.
func TestP1402ToP1405AsTheGraph(t *testing.T) {
	held := 0
	for seed := range int64(60) {
		x := &past{heap(t, 16), rand.New(rand.NewSource(seed))}
		for turn := range 500 {
			x.turn()
			if turn%10 > 0 {
				continue
			}
			roots := x.roots()
			m, fault := mark.Mark(x.h, roots)
			if fault.Err != 0 {
				continue
			}
			g, fault := x.h.Graph(roots)
			if fault.Err != 0 || graph.Check(g) != api.OK { // keys that stand twice, which no put makes, are no graph's
				continue
			}
			want, wantReport, e := graph.Collect(g)
			r, fault := Sweep(x.h, m)
			got, fault2 := x.h.Graph(roots)
			if e != api.OK || fault.Err != 0 || fault2.Err != 0 || r != wantReport || !graph.Equal(got, want) {
				t.Fatalf("P1402 to P1405: seed %d, turn %d: %v, %v, want %v; the graph is %v, %v, want %v", seed, turn, r, fault, wantReport, got, fault2, want)
			}
			held++
		}
	}
	if held < 1000 {
		t.Errorf("%d graphs were held against it", held)
	}
}

// spared is a list with spare room, which a call is to leave as it is.
func spared(list []int) []int {
	out := append(make([]int, 0, len(list)+4), list...)
	for i := range 4 {
		out = append(out, 70+i)
	}
	return out[:len(list)]
}

func TestP1406MarksAreNotTouched(t *testing.T) {
	x := newTabled(t)
	w, e := weak(t, x.h, null, null), eph(t, x.h, null, null)
	lists := [][]int{spared(all(x.h)), spared(places(values{x.e[0], x.e[1], x.e[3], e})), spared([]int{w.N})}
	var old [][]int
	for _, list := range lists {
		old = append(old, slices.Clone(list[:cap(list)]))
	}
	m := api.Marks{Live: lists[0], Dead: lists[1], Weak: lists[2]}
	same := func() {
		t.Helper()
		for i, list := range lists {
			if !slices.Equal(list[:cap(list)], old[i]) {
				t.Errorf("P1406: Sweep has changed its marks: %v, %v", list, old[i])
			}
		}
	}
	with(x.h, x.e[2].N, 7, func() { refuses(t, "P1401", x.h, m, corrupt(x.e[2].N)) })
	same()
	sweeps(t, "P1406", x.h, m, api.Report{Kept: 3, Broken: 1, Cleared: 1, Pruned: 3})
	same()
	refuses(t, "P1401", x.h, m, api.Fault{Err: 1})
	same()
	d := x.h.Dump()
	for _, list := range lists {
		clear(list[:cap(list)])
	}
	if !sameDump(d, x.h.Dump()) {
		t.Errorf("P1406: Sweep has kept its marks")
	}
}

// soon makes a call on a stack on which nothing can be deep, and tells a fault, if it takes far longer than going a few times over the greatest heap.
func soon(t *testing.T, call func()) {
	t.Helper()
	defer debug.SetMaxStack(debug.SetMaxStack(1 << 18))
	start := time.Now()
	call()
	if took := time.Since(start); took > 5*time.Second {
		t.Errorf("rule 7: a sweep has taken %v", took)
	}
}

// One row of many entries, into which many heads lead, of which all but one go.
func TestP1403LongRows(t *testing.T) {
	h := heap(t, 4096)
	m := thing(t, h, 10, 0, 0)
	spine := thing(t, h, 12, 512, 1)
	set(t, h, m, 2, spine)
	var dead []int
	last := null
	for range 50000 {
		dead = append(dead, thing(t, h, 13, 0, 1).N)
	}
	for _, at := range slices.Backward(dead) {
		set(t, h, ref(at), 3, last)
		last = ref(at)
	}
	for i := range 512 {
		set(t, h, spine, 1+i, last)
	}
	live := all(h)
	soon(t, func() {
		r, fault := Sweep(h, api.Marks{Live: live, Dead: dead[1:]})
		if r != (api.Report{Kept: 1, Pruned: 49999}) || fault.Err != 0 {
			t.Errorf("P1403: %v, %v", r, fault)
		}
	})
	if n, _ := h.TableCount(m); n != 1 || word(h, spine.N+512) != dead[0]*8+1 || word(h, dead[0]+3) != nilWord || len(all(h)) != 3 {
		t.Errorf("P1403: the count is %d", n)
	}
}

// Many tables, each of which loses its entry.
func TestP1403ManyTables(t *testing.T) {
	h := heap(t, 4096)
	var dead []int
	for i := range 16000 {
		m := thing(t, h, 10, 0, 0)
		put(t, h, m, fixnum(i), null)
	}
	for b := range h.All() {
		if b.Kind == 13 {
			dead = append(dead, b.At)
		}
	}
	live := all(h)
	soon(t, func() {
		r, fault := Sweep(h, api.Marks{Live: live, Dead: dead})
		if r != (api.Report{Kept: 16000, Pruned: 16000}) || fault.Err != 0 {
			t.Errorf("P1403: %v, %v", r, fault)
		}
	})
	if len(all(h)) != 32000 || h.Wrong() >= 0 {
		t.Errorf("P1404: %d objects are kept", len(all(h)))
	}
}

// The iterator of what is kept may end early, and begins anew each time.
func TestP1404WhatIsKept(t *testing.T) {
	x := newTabled(t)
	s := &sweeping{heap: x.h, marks: api.Marks{Live: all(x.h), Dead: places(x.e[1:3])}}
	if !s.take() {
		t.Fatalf("P1401: the marks are not taken")
	}
	want := places(values{x.e[0], x.e[3], x.e[4], x.m, x.spine})
	for n := range want {
		var got []int
		for at := range s.kept() {
			if len(got) == n {
				break
			}
			got = append(got, at)
		}
		if !slices.Equal(got, want[:n]) {
			t.Errorf("P1404: %v are kept, want %v", got, want[:n])
		}
	}
	if got := slices.Collect(s.kept()); !slices.Equal(got, want) {
		t.Errorf("P1404: %v are kept, want %v", got, want)
	}
}

func TestP1406HeapsSideBySide(t *testing.T) {
	alike := make([]bool, 8)
	var workers sync.WaitGroup
	for w := range alike {
		x := &past{heap(t, 8), rand.New(rand.NewSource(int64(w)))}
		workers.Go(func() {
			alike[w] = true
			for range 150 {
				x.turn()
				m, _ := x.marking()
				want, wantReport, wantFault := plainSweep(x.h.Dump(), m)
				r, fault := Sweep(x.h, m)
				alike[w] = alike[w] && r == wantReport && fault == wantFault && sameDump(want, x.h.Dump())
			}
		})
	}
	workers.Wait()
	if slices.Contains(alike, false) {
		t.Errorf("P1406: heaps side by side: %v", alike)
	}
}

// A heap that New refused is nil, and one that nobody made has no heap below it, or no space: no call panics there.
func TestNoCallPanicsWithoutAHeap(t *testing.T) {
	refused, _ := table.New(0)
	for _, h := range []*table.Heap{refused, {}, {Heap: &object.Heap{}}} {
		for _, m := range []api.Marks{{}, {Live: []int{}, Dead: []int{}, Weak: []int{}}} {
			if r, fault := Sweep(h, m); r != (api.Report{}) || fault != (api.Fault{}) {
				t.Errorf("rule 1: Sweep(%v) without a heap: %v, %v", m, r, fault)
			}
		}
		for _, m := range []api.Marks{{Live: []int{0}}, {Dead: []int{0}}, {Weak: []int{0}}, {Live: []int{-1, 0, 5}}} {
			if r, fault := Sweep(h, m); r != (api.Report{}) || fault != (api.Fault{Err: 1}) {
				t.Errorf("rule 1: Sweep(%v) without a heap: %v, %v", m, r, fault)
			}
		}
	}
}
