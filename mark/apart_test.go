package mark

import (
	"math/rand"
	"runtime/debug"
	"slices"
	"sync"
	"testing"
	"time"

	"hearth/api"
	"hearth/graph"
	"hearth/object"
	"hearth/table"
)

// Heaps without a rule, with wrong words in the end, against a marking that goes over all objects again and again.
func TestP1301ToP1304LongPasts(t *testing.T) {
	told := map[api.Errno]int{}
	for _, n := range []int{2, 5, 12, 20} {
		for seed := range int64(40) {
			x := &past{heap(t, n), rand.New(rand.NewSource(seed))}
			for turn := range 400 {
				x.turn()
				if wrong := turn - 300; wrong > 0 && x.source.Intn(30) == 0 {
					x.poke()
				}
				if turn == 250 && seed%3 == 0 {
					x.keep()
				}
				if turn%5 > 0 {
					continue
				}
				roots, old := x.roots(), x.h.Dump()
				m, fault := Mark(x.h, roots)
				want, wantFault := plainMark(old, roots)
				if fault != wantFault || !sameMarks(m, want) {
					t.Fatalf("P1301 to P1304: %d pages, seed %d, turn %d: Mark(%v) = %v, %v, want %v, %v", n, seed, turn, roots, m, fault, want, wantFault)
				}
				if !sameDump(old, x.h.Dump()) {
					t.Fatalf("P1305: %d pages, seed %d, turn %d: Mark has changed the heap", n, seed, turn)
				}
				told[fault.Err]++
			}
		}
	}
	if told[0] < 1000 || told[21] < 1000 || told[33] < 50 {
		t.Errorf("what was told: %v", told)
	}
}

// What is reached is what lives in the graph of the heap (chapter 10), with the spines and entries of tables besides.
func TestP1302AsTheGraph(t *testing.T) {
	gone, held := 0, 0
	for seed := range int64(60) {
		x := &past{heap(t, 16), rand.New(rand.NewSource(seed))}
		for turn := range 300 {
			x.turn()
			if turn%10 > 0 {
				continue
			}
			roots := x.roots()
			m, fault := Mark(x.h, roots)
			if fault.Err != 0 {
				continue
			}
			g, fault := x.h.Graph(roots)
			if fault.Err != 0 {
				t.Fatalf("P1210: seed %d, turn %d: Graph: %v", seed, turn, fault)
			}
			var live []int
			for _, at := range m.Live {
				if b, _ := x.h.Block(at); b.Serial > 0 {
					live = append(live, b.Serial)
				}
			}
			slices.Sort(live)
			if graph.Check(g) != api.OK { // keys that stand twice, which no put makes, are no graph's
				continue
			}
			if want := graph.Live(g); !slices.Equal(live, want) {
				t.Fatalf("P1302: seed %d, turn %d: %v is reached, %v lives", seed, turn, live, want)
			}
			gone, held = gone+len(m.Dead)+len(m.Weak), held+1
		}
	}
	if gone < 500 || held < 300 {
		t.Errorf("%d graphs were held against it, %d weak things have lost something", held, gone)
	}
}

func TestP1305RootsAreNotTouched(t *testing.T) {
	h, a, e, b, w := chapter(t)
	roots := append(make(values, 0, 9), e, w, a, e)
	spare := roots[:9]
	for i := 4; i < 9; i++ {
		spare[i] = fixnum(70 + i)
	}
	old := slices.Clone(spare)
	marks(t, "P1304", h, roots, values{a, e, b, w}, nil, nil)
	if !slices.Equal(spare, old) {
		t.Errorf("P1305: Mark has changed its roots: %v", spare)
	}
	m, _ := Mark(h, roots)
	for i := range spare {
		spare[i] = null
	}
	if !slices.Equal(m.Live, places(values{a, e, b, w})) {
		t.Errorf("P1305: Mark's answer hangs on its roots: %v", m)
	}
	marks(t, "P1305: nothing is kept", h, values{w}, values{w}, nil, values{w})
}

func TestP1305NewMemory(t *testing.T) {
	h, _, e, _, w := chapter(t)
	want, _ := Mark(h, values{e, w})
	m, _ := Mark(h, values{e, w})
	m.Live, m.Dead, m.Weak = append(m.Live, 77), append(m.Dead, 78), append(m.Weak, 79)
	if m.Live[2] != 77 || m.Dead[1] != 78 || m.Weak[1] != 79 {
		t.Errorf("P1305: lists of one answer share memory: %v", m)
	}
	for _, list := range [][]int{m.Live, m.Dead, m.Weak} {
		for i := range list {
			list[i] = -5
		}
	}
	if again, _ := Mark(h, values{e, w}); !sameMarks(again, want) {
		t.Errorf("P1305: what Mark has answered is kept: %v", again)
	}
	marks(t, "P1305", h, values{e, w}, values{e, w}, values{e}, values{w})
}

// soon makes a call on a stack on which nothing can be deep, and tells a fault, if it takes far longer than going a few times over the greatest heap.
func soon(t *testing.T, call func()) {
	t.Helper()
	defer debug.SetMaxStack(debug.SetMaxStack(1 << 18))
	start := time.Now()
	call()
	if took := time.Since(start); took > 5*time.Second {
		t.Errorf("P1305: a marking has taken %v", took)
	}
}

// counts marks, and tells a fault, if the lists are not as long as that.
func counts(t *testing.T, h *table.Heap, live, dead, weak int, roots ...api.Value) {
	t.Helper()
	soon(t, func() {
		m, fault := Mark(h, roots)
		if fault != (api.Fault{}) || len(m.Live) != live || len(m.Dead) != dead || len(m.Weak) != weak {
			t.Errorf("P1305: Mark tells %d, %d, %d places, %v, want %d, %d, %d", len(m.Live), len(m.Dead), len(m.Weak), fault, live, dead, weak)
		}
		if !slices.IsSorted(m.Live) || !slices.IsSorted(m.Dead) || !slices.IsSorted(m.Weak) {
			t.Errorf("P1304: the lists do not rise")
		}
	})
}

// Structures as deep as a great heap lets them be.
func TestP1305DeepHeaps(t *testing.T) {
	for _, c := range []struct{ kind, parts, word int }{
		{1, 0, 1}, {1, 0, 2}, {2, 0, 1}, {3, 1, 1}, {3, 12, 12}, {6, 1, 1}, {8, 0, 2}, {9, 0, 2}, {11, 0, 1},
	} {
		h := heap(t, 4096)
		last := null
		for range 15000 {
			v := thing(t, h, c.kind, c.parts, 0)
			set(t, h, v, c.word, last)
			last = v
		}
		counts(t, h, 15000, 0, 0, last)
		counts(t, h, 0, 0, 0)
	}
}

// Frames that hold continuations of frames.
func TestP1305DeepContinuations(t *testing.T) {
	h := heap(t, 4096)
	last := thing(t, h, 7, 0, 0)
	for range 20000 {
		frame := thing(t, h, 11, 1, 0)
		set(t, h, frame, 5, last)
		last = thing(t, h, 7, 0, 0, frame)
	}
	counts(t, h, 40001, 0, 0, last)
}

// Ephemerons, each of which waits for what the next one, or the one behind it, lets go; met in each order.
func TestP1305EphemeronsThatWait(t *testing.T) {
	for order := range 3 {
		h := heap(t, 4096)
		var keys, all values
		for range 30000 {
			keys, all = append(keys, thing(t, h, 1, 0, 0)), append(all, thing(t, h, 9, 0, 0))
		}
		switch order {
		case 1:
			slices.Reverse(keys)
		case 2:
			rand.New(rand.NewSource(1)).Shuffle(len(keys), func(i, j int) { keys[i], keys[j] = keys[j], keys[i] })
		}
		for i, e := range all {
			set(t, h, e, 1, keys[i])
			if i+1 < len(keys) {
				set(t, h, e, 2, keys[i+1])
			}
		}
		n := len(all)
		backward := slices.Clone(all)
		slices.Reverse(backward)
		for _, roots := range []values{all, backward} {
			counts(t, h, n, n, 0, roots...)
			counts(t, h, 2*n, 0, 0, append(slices.Clone(roots), keys[0])...)
			counts(t, h, 2*n, 0, 0, append(values{keys[0]}, roots...)...)
			counts(t, h, n+1, n-1, 0, append(slices.Clone(roots), keys[n-1])...)
			counts(t, h, n+n/2, n-n/2, 0, append(slices.Clone(roots), keys[n-n/2])...)
		}
	}
}

// Nothing waits any longer for a key that was met.
func TestP1305WhatIsMetIsWaitedForNoLonger(t *testing.T) {
	h := heap(t, 40)
	var all values
	for range 100 {
		all = append(all, thing(t, h, 1, 0, 0))
	}
	roots := values{}
	for i := range 99 {
		roots = append(roots, eph(t, h, all[i], all[i+1]), eph(t, h, all[i], null))
	}
	slices.Reverse(roots)
	m := begin(h)
	m.run(append(roots, all[60]))
	if len(m.waiting) != 60 {
		t.Errorf("P1305: %d keys are waited for", len(m.waiting))
	}
	for at := range m.waiting {
		if m.reached.Get(at) {
			t.Errorf("P1305: the key at %d is waited for, and was met", at)
		}
	}
}

// All wait for one key, and the key comes last.
func TestP1305ManyWaitForOneKey(t *testing.T) {
	h := heap(t, 4096)
	k := box(t, h, null)
	var all values
	for range 40000 {
		all = append(all, eph(t, h, k, thing(t, h, 2, 0, 0)))
	}
	n := len(all)
	counts(t, h, n, n, 0, all...)
	counts(t, h, 2*n+1, 0, 0, append(all, k)...)
}

// A table whose entries wait for what others of them have.
func TestP1305EntriesThatWait(t *testing.T) {
	h := heap(t, 4096)
	m := thing(t, h, 10, 0, 0)
	first := box(t, h, null)
	k, n := first, 0
	for n < 10000 {
		v := thing(t, h, 2, 0, 0)
		put(t, h, m, k, v)
		k = v
		n++
	}
	counts(t, h, n+2, n, 0, m)
	counts(t, h, 2*n+3, 0, 0, m, first)
	counts(t, h, n+3, n, 0, m, k)
}

// A list of roots that is far longer than the heap, and one object that has all others.
func TestP1305WideHeaps(t *testing.T) {
	h := heap(t, 4096)
	all := thing(t, h, 3, 1023, 0)
	roots := slices.Repeat(values{all, fixnum(1)}, 500000)
	for i := range 1023 {
		set(t, h, all, 1+i, thing(t, h, 3, 100, 0))
		set(t, h, ref(word(h, all.N+1+i)>>3), 1, all)
	}
	counts(t, h, 1024, 0, 0, roots...)
	for b := range h.All() {
		if b.At == all.N {
			continue
		}
		for i := 2; i < b.Size; i++ {
			set(t, h, ref(b.At), i, all)
		}
	}
	counts(t, h, 1024, 0, 0, roots...)
}

// The worklist gives back each place once, those that find no room in its channel too.
func TestP1305Worklist(t *testing.T) {
	w := newWorklist()
	if at, ok := w.take(); ok || at != 0 {
		t.Errorf("an empty worklist gives %d", at)
	}
	for round := range 3 {
		seen := map[int]int{}
		n := room - 1 + round*room
		for i := range n {
			w.put(i)
			w.put(n + i)
			at, ok := w.take()
			if seen[at]++; !ok {
				t.Fatalf("the worklist is empty too early")
			}
		}
		for at, ok := w.take(); ok; at, ok = w.take() {
			seen[at]++
		}
		for i := range 2 * n {
			if seen[i] != 1 {
				t.Fatalf("the place %d was given %d times", i, seen[i])
			}
		}
		if len(seen) != 2*n {
			t.Fatalf("%d places were given, want %d", len(seen), 2*n)
		}
	}
}

func TestP1305HeapsSideBySide(t *testing.T) {
	alike := make([]bool, 8)
	var all sync.WaitGroup
	for w := range alike {
		x := &past{heap(t, 8), rand.New(rand.NewSource(int64(w)))}
		all.Go(func() {
			alike[w] = true
			for range 150 {
				x.turn()
				roots := x.roots()
				m, fault := Mark(x.h, roots)
				want, wantFault := plainMark(x.h.Dump(), roots)
				alike[w] = alike[w] && sameMarks(m, want) && fault == wantFault
			}
		})
	}
	all.Wait()
	if slices.Contains(alike, false) {
		t.Errorf("P1305: heaps side by side: %v", alike)
	}
}

// A heap that New refused is nil, and one that nobody made has no heap below it, or no space: no call panics there.
func TestNoCallPanicsWithoutAHeap(t *testing.T) {
	refused, _ := table.New(0)
	for _, h := range []*table.Heap{refused, {}, {Heap: &object.Heap{}}} {
		for _, roots := range []values{nil, {}, {null, fixnum(0), char(65)}} {
			if m, fault := Mark(h, roots); !sameMarks(m, api.Marks{}) || fault != (api.Fault{}) {
				t.Errorf("rule 1: Mark(%v) without a heap: %v, %v", roots, m, fault)
			}
		}
		for _, v := range append(strangers(), ref(0), ref(1)) {
			if m, fault := Mark(h, values{null, v}); !sameMarks(m, api.Marks{}) || fault != no(33) {
				t.Errorf("rule 1: Mark(%v) without a heap: %v, %v", v, m, fault)
			}
		}
	}
}
