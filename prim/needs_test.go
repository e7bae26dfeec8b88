package prim

import (
	"fmt"
	"slices"
	"testing"

	"hearth/api"
	"hearth/table"
)

// What each instruction needs, but for vectors and puts.
func TestP2105Sizes(t *testing.T) {
	sizes := map[int][]int{30: {3}, 63: {3}, 67: {3}, 70: {3}, 35: {2}, 54: {2}, 55: {2}, 56: {2}, 57: {2}, 59: {2}}
	each(t, func(t *testing.T, h Heap) {
		w := worldOf(t, h)
		for op, args := range w.right() {
			if op != 38 && op != 72 {
				idle(t, "P2105", h, func() { needed(t, "P2105", h, op, args, fine, sizes[op]...) })
			}
		}
		for _, n := range []int{0, 1, 2, 31, 32, 63, 64, 1022, 1023} {
			idle(t, "P2105", h, func() { needed(t, "P2105", h, 38, list{fixed(n), w.nothing}, fine, 1+n) })
		}
		for _, n := range []int{-1, 1024, api.MostFix, api.LeastFix} {
			needed(t, "P2105", h, 38, list{fixed(n), null()}, failureN(api.ErrRange, n))
		}
	})
}

// What a put needs: in the arena a spine and an entry, an entry, nothing; in a graph nothing ever.
func TestP2105Puts(t *testing.T) {
	each(t, func(t *testing.T, h Heap) {
		_, inArena := h.(*table.Heap)
		v := tab(t, h)
		for i := range 100 {
			var want []int
			if inArena {
				want = []int{4}
				if i == 0 {
					want = []int{5, 4}
				} else if i == 8 || i == 16 || i == 32 || i == 64 {
					want = []int{i + 1, 4}
				}
			}
			args := list{v, fixed(i), ref(api.MostFix)} // the value is not asked
			idle(t, "P2105", h, func() { needed(t, "P2105", h, 72, args, fine, want...) })
			answers(t, "P2105", h, 72, list{v, fixed(i), yes()}, nought(), fine)
			idle(t, "P2105", h, func() { needed(t, "P2105: it is there", h, 72, args, fine) })
		}
	})
}

// Do makes just the objects that Needs has told of, of these sizes, in this order.
func TestP2105Makes(t *testing.T) {
	for _, op := range all() {
		h := arena(t, 100)
		w := worldOf(t, h)
		for _, args := range []list{w.right()[op], apart(t, h, op)} {
			sizes, fail := Needs(h, op, args)
			old := h.Blocks()
			_, fail2 := Do(h, op, args)
			var have []int
			for _, b := range h.Blocks() {
				if !slices.Contains(old, b) {
					have = append(have, b.Size)
				}
			}
			slices.Sort(have)
			slices.Sort(sizes)
			if fail != fine || fail2 != fine || !slices.Equal(have, sizes) {
				t.Errorf("P2105: Needs(%d, %v): %v, %v, but made were %v, %v", op, args, sizes, fail, have, fail2)
			}
		}
	}
}

// Where Needs fails, Do fails so; where Needs does not fail, Do has no error of a type, a range of a vector, or what the two look at alike. Whatever words are wrong.
func TestP2105Alike(t *testing.T) {
	set := All()
	build := func() (*table.Heap, world) {
		h := arena(t, 40)
		return h, worldOf(t, h)
	}
	first, w := build()
	values := list{w.pair, w.vector, w.text, w.flo, w.weak, w.eph, w.table, w.frame, w.nothing, fixed(0), fixed(7), fixed(-1), fixed(1024), null(), letter(65)}
	count := 0
	for _, b := range first.Blocks() {
		for i := range b.Size {
			h, _ := build()
			h.Poke(b.At+i, 6)
			clean := h.Dump()
			for _, op := range all() {
				for _, args := range tuples(values, Takes(op)) {
					if len(args) == 3 && args[0] != w.table && args[0] != w.vector {
						continue
					}
					_, fail := set.Needs(h, op, args)
					if fail == fine {
						continue
					}
					count++
					v, fail2 := set.Do(h, op, args)
					if v != (val{}) || fail2 != fail {
						t.Errorf("P2105: wrong at word %d of %v: Needs(%d, %v): %v, Do: %v, %v", i, b, op, args, fail, v, fail2)
					}
				}
			}
			if fmt.Sprint(clean) != fmt.Sprint(h.Dump()) {
				t.Errorf("P2105: wrong at word %d of %v: the heap has changed", i, b)
			}
		}
	}
	if count == 0 {
		t.Error("P2105: nothing fails")
	}
}

// A put of a value that may not stand there: a wrong word on the way to the key is told, as Needs tells it; without one ErrValue.
func TestP2105PutOfNoValue(t *testing.T) {
	h := arena(t, 10)
	w := worldOf(t, h)
	args := list{w.table, fixed(7), w.frame}
	idle(t, "P2105", h, func() { answers(t, "P2105", h, 72, args, val{}, failure(api.ErrValue)) })
	spine, _ := h.Peek(w.table.N + 2)
	h.Poke(w.table.N+2, 8)
	refuses(t, "P2105", h, 72, args, wrongAt(w.table.N+2))
	h.Poke(w.table.N+2, spine)
	h.Poke(spine>>3, 8)
	refuses(t, "P2105", h, 72, args, wrongAt(spine>>3))
}

// Of reading floats Needs tells a fault where Do does.
func TestP2105Floats(t *testing.T) {
	each(t, func(t *testing.T, h Heap) {
		w := worldOf(t, h)
		for op := 54; op <= 57; op++ {
			for at := 2; at < 4; at++ {
				fault := api.Fault{Err: api.ErrCorrupt, At: 1000 + at}
				s := &spy{heap: h, at: at, fault: fault}
				needed(t, "P2105", s, op, list{w.flo, w.flo}, wrongAt(1000+at))
				s = &spy{heap: h, at: at, fault: fault}
				answers(t, "P2105", s, op, list{w.flo, w.flo}, val{}, wrongAt(1000+at))
			}
		}
	})
}

// fill takes all room that an arena has.
func fill(h Heap) {
	for _, n := range []int{63, 31, 19, 15, 11, 7, 5, 3, 1} {
		for fault := (api.Fault{}); fault.Err == api.OK; {
			_, fault = h.Make(api.KindVector, n, 0)
		}
	}
}

// In an arena without any room what makes no object answers as it does in one with room; what makes one fails, ErrFull, and turns nothing.
func TestP2106Full(t *testing.T) {
	for _, op := range all() {
		roomy, full := arena(t, 100), arena(t, 5)
		w := worldOf(t, roomy)
		if worldOf(t, full) != w {
			t.Fatal("the worlds are not the same")
		}
		fill(full)
		if full.Fits(1) || full.Fits(3) || full.Fits(5) || full.Fits(64) {
			t.Fatal("there is room left")
		}
		args := w.right()[op]
		sizes, fail := Needs(roomy, op, args)
		needed(t, "P2105: Needs asks for no room", full, op, args, fail, sizes...)
		v, fail := Do(roomy, op, args)
		if slices.Contains(makers(), op) {
			idle(t, "P2106", full, func() { answers(t, "P2106", full, op, args, val{}, failure(api.ErrFull)) })
			continue
		}
		answers(t, "P2106", full, op, args, v, fail)
	}
}

// The same of all sorts of operands.
func TestP2106All(t *testing.T) {
	set := All()
	for _, op := range all() {
		roomy, full := arena(t, 100), arena(t, 5)
		w := worldOf(t, roomy)
		worldOf(t, full)
		fill(full)
		values := w.values()
		if Takes(op) == 3 {
			values = list{w.table, w.vector, w.pair, w.frame, w.nothing, fixed(0), fixed(7), fixed(2), null()}
		}
		for _, args := range tuples(values, Takes(op)) {
			before := full.Dump()
			v, fail := set.Do(full, op, args)
			if slices.Contains(makers(), op) {
				if fail == failure(api.ErrFull) && fmt.Sprint(before) != fmt.Sprint(full.Dump()) {
					t.Errorf("P2106: Do(%d, %v): the heap has changed", op, args)
				}
				continue
			}
			if want, wantFail := set.Do(roomy, op, args); v != want || fail != wantFail {
				t.Errorf("P2106: Do(%d, %v): %v, %v, with room %v, %v", op, args, v, fail, want, wantFail)
			}
		}
	}
}

// A key that is there takes a value also where there is no room; a new one is ErrFull, also if one of two objects would fit.
func TestP2106Puts(t *testing.T) {
	h := arena(t, 5)
	w := worldOf(t, h)
	empty := tab(t, h)
	fill(h)
	answers(t, "P2106", h, 72, list{w.table, fixed(7), w.text}, nought(), fine)
	answers(t, "P2106", h, 71, list{w.table, fixed(7), null()}, w.text, fine)
	answers(t, "P2106", h, 73, list{w.table, fixed(7)}, nought(), fine)
	idle(t, "P2106", h, func() {
		answers(t, "P2106", h, 72, list{w.table, fixed(7), w.text}, val{}, failure(api.ErrFull))
		answers(t, "P2106", h, 72, list{empty, fixed(7), w.text}, val{}, failure(api.ErrFull))
	})
	part := arena(t, 1) // a page of the entries' class, and none for a spine
	only := tab(t, part)
	idle(t, "P2106", part, func() {
		answers(t, "P2106", part, 72, list{only, fixed(7), null()}, val{}, failure(api.ErrFull))
	})
}
