package prim

import (
	"slices"
	"sync"
	"testing"

	"hearth/api"
	"hearth/graph"
	"hearth/table"
)

// A heap that New refused is nil, and one that nobody made has no heap below it: no call panics there, and what asks for no object answers as ever.
func TestNoCallPanicsWithoutAHeap(t *testing.T) {
	refused, _ := table.New(0)
	var nobody *graph.Heap
	for i, h := range []Heap{nil, refused, nobody, &table.Heap{}, &graph.Heap{}, &spy{at: -1}, (*spy)(nil)} {
		for _, op := range append(all(), 0, 29, 75, most, least) {
			for _, v := range []val{ref(0), ref(1), ref(most), null(), fixed(1), letter(65), {}} {
				for n := range 5 {
					args := slices.Repeat(list{v}, n)
					sizes, fail := Needs(h, op, args)
					if fail != fine && len(sizes) > 0 {
						t.Errorf("rule 2: heap %d: Needs(%d, %v): %v, %v", i, op, args, sizes, fail)
					}
					x, fail := Do(h, op, args)
					if fail != fine && x != (val{}) || fail == fine && x == (val{}) {
						t.Errorf("rule 2: heap %d: Do(%d, %v): %v, %v", i, op, args, x, fail)
					}
				}
			}
		}
		answers(t, "rule 1", h, 48, list{fixed(1), fixed(2)}, fixed(3), fine)
		answers(t, "rule 1", h, 46, list{fixed(1)}, fixed(20), fine)
		answers(t, "rule 1", h, 31, list{ref(api.MostFix)}, val{}, failure(api.ErrRef))
		needed(t, "rule 1", h, 31, list{ref(api.MostFix)}, failure(api.ErrRef))
		answers(t, "rule 1", h, 46, list{ref(api.MostFix)}, val{}, failure(api.ErrRef))
	}
}

// No operands at all make a call panic; what is answered with an error stands beside nothing.
func TestWildOperands(t *testing.T) {
	numbers := []int{0, 1, -1, 2, 5, 64, 1023, 1024, 4096, api.MostFix, api.MostFix + 1, api.LeastFix, api.LeastFix - 1, most, least}
	each(t, func(t *testing.T, h Heap) {
		w, set := worldOf(t, h), All()
		var values list
		for kind := -1; kind < 7; kind++ {
			for _, n := range numbers {
				values = append(values, val{Kind: kind, N: n})
			}
		}
		for _, op := range append(all(), 29, 75, most, least) {
			for _, x := range values {
				for _, args := range []list{{x}, {x, x}, {x, x, x}, {w.vector, x}, {w.vector, x, x}, {w.text, x}, {w.table, x}, {w.table, x, x}, {x, w.flo}} {
					sizes, fail := set.Needs(h, op, args)
					if fail != fine && len(sizes) > 0 {
						t.Errorf("rule 2: Needs(%d, %v): %v, %v", op, args, sizes, fail)
					}
					v, fail := set.Do(h, op, args)
					if fail != fine && v != (val{}) || fail == fine && v == (val{}) {
						t.Errorf("rule 2: Do(%d, %v): %v, %v", op, args, v, fail)
					}
				}
			}
		}
	})
}

// What is handed in stays as it is, its spare room too; what is answered is nobody else's.
func TestMemory(t *testing.T) {
	each(t, func(t *testing.T, h Heap) {
		w := worldOf(t, h)
		for op, right := range w.right() {
			room := append(slices.Clone(right), fixed(50), fixed(51), fixed(52))
			kept := slices.Clone(room)
			Needs(h, op, room[:len(right)])
			v, _ := Do(h, op, room[:len(right)])
			if !slices.Equal(room, kept) {
				t.Errorf("rule 3: %d: %v, was %v", op, room, kept)
			}
			if !slices.Contains([]int{30, 35, 38, 63, 67}, op) {
				continue
			}
			first, _ := h.Get(v, 1)
			clear(room)
			if again, _ := h.Get(v, 1); again != first {
				t.Errorf("rule 3: %d: the operands were kept: %v, was %v", op, again, first)
			}
		}
		for _, op := range []int{30, 35, 38, 54, 59, 70, 72} {
			args := apart(t, h, op)
			sizes, _ := Needs(h, op, args)
			want := slices.Clone(sizes)
			for i := range sizes {
				sizes[i] = 99
			}
			needed(t, "rule 3", h, op, args, fine, want...)
		}
	})
}

// What is answered hangs on the operands and the heap alone: asked again, or by another set, it is the same.
func TestAgain(t *testing.T) {
	each(t, func(t *testing.T, h Heap) {
		w := worldOf(t, h)
		one, other := All(), All()
		for _, op := range all() {
			if slices.Contains(makers(), op) || op == 73 {
				continue
			}
			args := w.right()[op]
			a, fail1 := one.Do(h, op, args)
			b, fail2 := one.Do(h, op, args)
			c, fail3 := other.Do(h, op, args)
			if a != b || b != c || fail1 != fail2 || fail2 != fail3 {
				t.Errorf("rule 4: %d: %v, %v, %v", op, a, b, c)
			}
		}
	})
}

// Heaps have nothing in common, and a set may be asked by many at the same time.
func TestSideBySide(t *testing.T) {
	set := All()
	sums := make([]val, 8)
	var workers sync.WaitGroup
	for n := range sums {
		h := Heap(graph.New())
		if n%2 > 0 {
			h = arena(t, 100)
		}
		workers.Go(func() {
			v, _ := set.Do(h, 70, nil)
			for i := range 200 {
				p, _ := set.Do(h, 30, list{fixed(i), fixed(n)})
				set.Do(h, 72, list{v, fixed(i % 20), p})
			}
			total := fixed(0)
			for i := range 20 {
				p, _ := set.Do(h, 71, list{v, fixed(i), null()})
				a, _ := set.Do(h, 31, list{p})
				b, _ := set.Do(h, 32, list{p})
				c, _ := set.Do(h, 50, list{a, b})
				total, _ = set.Do(h, 48, list{total, c})
			}
			sums[n] = total
		})
	}
	workers.Wait()
	for n, have := range sums {
		if have != fixed(n*(180*20+190)) {
			t.Errorf("rule 4: heap %d: %v", n, have)
		}
	}
}
