package prim

import (
	"slices"
	"testing"

	"hearth/api"
)

// takes is the column of DOC.md's table, from 30 on.
var takes = []int{2, 1, 1, 2, 2, 1, 1, 2, 2, 2, 3, 1, 1, 2, 2, 2, 1, 1, 2, 2, 2, 2, 2, 2, 2, 2, 2, 2, 2, 1, 1, 1, 1, 2, 1, 1, 2, 2, 1, 1, 0, 3, 3, 2, 1}

// types are the chapter's: of each instruction those of its operands, by the numbers that kind tells; 0: any.
func types() map[int][]int {
	return map[int][]int{
		30: {0, 0}, 31: {1}, 32: {1}, 33: {1, 0}, 34: {1, 0}, 35: {0}, 36: {2}, 37: {2, 0},
		38: {20, 0}, 39: {3, 20}, 40: {3, 20, 0}, 41: {3}, 42: {4}, 43: {4, 20}, 44: {4, 4},
		45: {0, 0}, 46: {0}, 47: {0}, 48: {20, 20}, 49: {20, 20}, 50: {20, 20}, 51: {20, 20}, 52: {20, 20}, 53: {20, 20},
		54: {5, 5}, 55: {5, 5}, 56: {5, 5}, 57: {5, 5}, 58: {5, 5}, 59: {20}, 60: {5}, 61: {22}, 62: {20},
		63: {0, 0}, 64: {8}, 65: {8}, 66: {8, 0}, 67: {0, 0}, 68: {9}, 69: {9},
		70: {}, 71: {10, 0, 0}, 72: {10, 0, 0}, 73: {10, 0}, 74: {10},
	}
}

func TestP2101Takes(t *testing.T) {
	for i, want := range takes {
		if n := Takes(30 + i); n != want {
			t.Errorf("P2101: Takes(%d): %d, want %d", 30+i, n, want)
		}
	}
	for _, op := range []int{29, 75, 0, 1, 22, 76, 100, -30, -1, 30 + 1<<32, most, least} {
		if n := Takes(op); n != -1 {
			t.Errorf("P2101: Takes(%d): %d, want -1", op, n)
		}
	}
}

// The set, made once, is the package.
func TestSet(t *testing.T) {
	each(t, func(t *testing.T, h Heap) {
		s, w := All(), worldOf(t, h)
		for op, args := range w.right() {
			if s.Takes(op) != Takes(op) || s.Takes(-op) != -1 {
				t.Errorf("Takes(%d): %d, Takes(%d): %d", op, s.Takes(op), -op, s.Takes(-op))
			}
			a, fail1 := s.Needs(h, op, args)
			b, fail2 := Needs(h, op, args)
			if !slices.Equal(a, b) || fail1 != fail2 {
				t.Errorf("Needs(%d): %v, %v, not %v, %v", op, a, fail1, b, fail2)
			}
			x, fail1 := s.Do(h, op, args)
			y, fail2 := Do(h, op, args)
			if x != y && !slices.Contains(makers(), op) || fail1 != fail2 {
				t.Errorf("Do(%d): %v, %v, not %v, %v", op, x, fail1, y, fail2)
			}
		}
		if _, fail := (Set{}).Do(h, 30, list{null(), null()}); fail != failure(api.ErrArg) {
			t.Errorf("Do of no set: %v", fail)
		}
	})
}

// refuses tells a fault, if Needs and Do fail otherwise than so, or turn anything.
func refuses(t testing.TB, promise string, h Heap, op int, args list, want api.Fail) {
	t.Helper()
	idle(t, promise, h, func() {
		t.Helper()
		needed(t, promise, h, op, args, want)
		answers(t, promise, h, op, args, val{}, want)
	})
}

func TestP2102Arg(t *testing.T) {
	each(t, func(t *testing.T, h Heap) {
		w := worldOf(t, h)
		for _, op := range []int{29, 75, 0, 17, -1, -30, 30 + 1<<32, most, least} {
			for n := range 5 {
				refuses(t, "P2102", h, op, slices.Repeat(list{fixed(1)}, n), failure(api.ErrArg))
				refuses(t, "P2102", h, op, slices.Repeat(list{{}}, n), failure(api.ErrArg))
			}
		}
		for op, right := range w.right() {
			refuses(t, "P2102: one more", h, op, append(slices.Clone(right), fixed(1)), failure(api.ErrArg))
			refuses(t, "P2102: one more, which is no value", h, op, append(slices.Clone(right), val{}), failure(api.ErrArg))
			for n := range right {
				refuses(t, "P2102: too few", h, op, right[:n], failure(api.ErrArg))
				refuses(t, "P2102: too few, no values", h, op, make(list, n), failure(api.ErrArg))
			}
		}
	})
}

// What is no value is told ahead of every type, and nothing is opened ahead of it.
func TestP2102Value(t *testing.T) {
	each(t, func(t *testing.T, h Heap) {
		w := worldOf(t, h)
		for op, right := range w.right() {
			for i := range right {
				for _, x := range invalid() {
					args := slices.Clone(right)
					args[i] = x
					s := watch(h)
					refuses(t, "P2102", s, op, args, failure(api.ErrValue))
					if len(s.calls) > 0 {
						t.Errorf("P2102: Do(%d, %v) asks %v", op, args, s.calls)
					}
					for k := range args[:i] { // none of these is of any type that is asked for
						args[k] = code(5)
					}
					refuses(t, "P2102: behind wrong types", h, op, args, failure(api.ErrValue))
				}
			}
		}
	})
}

// typed is what the chapter says of the types of operands; and which of them are opened.
func typed(h Heap, types []int, args list) (fail api.Fail, opened list) {
	for i, want := range types {
		v, have := args[i], 0
		switch {
		case want == 0:
			continue
		case v.Kind == 2 && want <= 13:
			opened = append(opened, v)
			b, fault := h.Open(v)
			if fault.Err != 0 {
				return api.Fail{Err: fault.Err, At: fault.At}, opened
			}
			have = b.Kind
		case v.Kind != 2:
			have = []int{1: 20, 3: 21, 4: 22}[v.Kind]
		}
		if have != want {
			return failureN(80, i+1), opened
		}
	}
	return fine, opened
}

// tuples are all lists of n of these values.
func tuples(values list, n int) []list {
	out := []list{{}}
	for range n {
		var longer []list
		for _, head := range out {
			for _, v := range values {
				longer = append(longer, append(slices.Clone(head), v))
			}
		}
		out = longer
	}
	return out
}

// Each list of operands of all sorts is refused just where its types are wrong, as the first wrong one says, and nothing else is opened.
func TestP2102Types(t *testing.T) {
	each(t, func(t *testing.T, h Heap) {
		w, set := worldOf(t, h), All()
		values := w.values()
		for op, types := range types() {
			n := len(types)
			if n == 3 { // the third has no type ever
				n = 2
			}
			for _, args := range tuples(values, n) {
				args = append(args, slices.Repeat(list{null()}, len(types)-n)...)
				want, opened := typed(h, types, args)
				s := watch(h)
				_, needs := set.Needs(s, op, args)
				if want != fine && needs != want || want == fine && needs.Err == api.ErrType {
					t.Errorf("P2102: Needs(%d, %v): %v, want %v", op, args, needs, want)
				}
				if want == fine {
					continue
				}
				v, fail := set.Do(s, op, args)
				if v != (val{}) || fail != want {
					t.Errorf("P2102: Do(%d, %v): %v, %v, want %v", op, args, v, fail, want)
				}
				calls := opens(append(slices.Clone(opened), opened...)...)
				if !slices.Equal(s.calls, calls) {
					t.Errorf("P2102: %d of %v asks %v, want %v", op, args, s.calls, calls)
				}
			}
		}
	})
}

// opens are the calls that open these.
func opens(values ...val) []string {
	s := &spy{heap: nil, at: 0}
	for _, v := range values {
		s.note("Open", v)
	}
	return s.calls
}

// A fault of Open ends the call: of a reference to nothing, of a wrong header. What comes behind it is not looked at, but that all are values.
func TestP2102Open(t *testing.T) {
	h := arena(t, 100)
	w := worldOf(t, h)
	for op, types := range types() {
		for i, want := range types {
			args := slices.Clone(w.right()[op])
			args[i] = w.nothing
			if want == 0 {
				continue
			}
			if want >= 20 {
				refuses(t, "P2102", h, op, args, failureN(api.ErrType, i+1))
				continue
			}
			refuses(t, "P2102", h, op, args, failure(api.ErrRef))
			for k := range args[i+1:] {
				args[i+1+k] = code(5)
			}
			refuses(t, "P2102", h, op, args, failure(api.ErrRef))
			v := some(t, h, want)
			args[i] = v
			h.Poke(v.N, 0)
			refuses(t, "P2102", h, op, args, wrongAt(v.N))
			other := some(t, h, want%10+1)
			args[i] = other
			h.Poke(other.N, h.Words())
			refuses(t, "P2102: of another kind too", h, op, args, wrongAt(other.N))
		}
	}
}

// some is a new object of a visible kind.
func some(t testing.TB, h Heap, kind int) val {
	t.Helper()
	if kind == api.KindText {
		return text(t, h, "x")
	}
	return made(t, h, kind, 0, 0)
}

// Of two floats, or two texts, the first is opened first.
func TestP2102Order(t *testing.T) {
	for _, op := range []int{44, 54, 55, 56, 57, 58} {
		h := arena(t, 10)
		kind := types()[op][0]
		a, b, box := some(t, h, kind), some(t, h, kind), some(t, h, api.KindBox)
		h.Poke(b.N, 0)
		refuses(t, "P2102", h, op, list{a, b}, wrongAt(b.N))
		refuses(t, "P2102", h, op, list{box, b}, failureN(api.ErrType, 1))
		refuses(t, "P2102", h, op, list{fixed(1), b}, failureN(api.ErrType, 1))
		h.Poke(a.N, 0)
		refuses(t, "P2102", h, op, list{a, b}, wrongAt(a.N))
		refuses(t, "P2102", h, op, list{a, box}, wrongAt(a.N))
		refuses(t, "P2102", h, op, list{b, fixed(1)}, wrongAt(b.N))
	}
}

// Operands without a type may refer to nothing, or to an object that is corrupt: nobody opens them.
func TestP2102Any(t *testing.T) {
	h := arena(t, 100)
	w := worldOf(t, h)
	bad := some(t, h, api.KindBox)
	h.Poke(bad.N, 0)
	for op, types := range types() {
		if op == 46 { // it opens, but not for a type
			needed(t, "P2102", h, op, list{bad}, fine)
			needed(t, "P2102", h, op, list{w.nothing}, fine)
			continue
		}
		for i, want := range types {
			if want != 0 {
				continue
			}
			args := slices.Clone(w.right()[op])
			args[i] = bad
			if v, fail := Do(h, op, args); fail != fine {
				t.Errorf("P2102: Do(%d, %v): %v, %v", op, args, v, fail)
			}
		}
	}
	answers(t, "P2102", h, 45, list{bad, w.nothing}, no(), fine)
	answers(t, "P2102", h, 45, list{w.nothing, w.nothing}, yes(), fine)
	answers(t, "P2102", h, 47, list{w.nothing}, no(), fine)
	answers(t, "P2102", h, 71, list{w.table, fixed(100), w.nothing}, w.nothing, fine)
	answers(t, "P2102", h, 71, list{w.table, fixed(100), w.frame}, w.frame, fine)
}

// A value that may not stand where it is put is told by the heap: ErrValue.
func TestP2102Put(t *testing.T) {
	each(t, func(t *testing.T, h Heap) {
		w := worldOf(t, h)
		for _, x := range []val{w.frame, w.nothing} {
			for _, op := range []int{33, 34, 37, 66} {
				args := list{w.right()[op][0], x}
				idle(t, "P2102", h, func() { answers(t, "P2102", h, op, args, val{}, failure(api.ErrValue)) })
			}
			idle(t, "P2102", h, func() {
				answers(t, "P2102", h, 40, list{w.vector, fixed(0), x}, val{}, failure(api.ErrValue))
				answers(t, "P2102", h, 72, list{w.table, fixed(9), x}, val{}, failure(api.ErrValue))
				answers(t, "P2102", h, 72, list{w.table, fixed(7), x}, val{}, failure(api.ErrValue))
			})
			for _, op := range []int{30, 63, 67} {
				answers(t, "P2102", h, op, list{x, null()}, val{}, failure(api.ErrValue))
				answers(t, "P2102", h, op, list{null(), x}, val{}, failure(api.ErrValue))
			}
			answers(t, "P2102", h, 35, list{x}, val{}, failure(api.ErrValue))
			answers(t, "P2102", h, 38, list{fixed(2), x}, val{}, failure(api.ErrValue))
			for _, op := range []int{71, 73} {
				args := list{w.table, x, null()}[:Takes(op)]
				idle(t, "P2102", h, func() { answers(t, "P2102", h, op, args, val{}, failure(api.ErrValue)) })
			}
			refuses(t, "P2102", h, 72, list{w.table, x, null()}, failure(api.ErrValue))
		}
	})
}

// A fault of any call of the heap ends an instruction: it is answered with its place, beside nothing, and nothing more is asked.
func TestP2102Faults(t *testing.T) {
	for _, op := range all() {
		each(t, func(t *testing.T, h Heap) {
			for _, fault := range []api.Fault{{Err: api.ErrCorrupt, At: 77}, {Err: api.ErrFull}, {Err: api.ErrWord}, {Err: api.ErrRef}} {
				for at := 0; ; at++ {
					s := &spy{heap: h, at: at, fault: fault}
					v, fail := Do(s, op, worldOf(t, h).right()[op])
					if len(s.calls) <= at {
						break
					}
					if v != (val{}) || fail != (api.Fail{Err: fault.Err, At: fault.At}) || len(s.calls) != at+1 {
						t.Errorf("P2102: Do(%d) with %v at %v: %v, %v", op, fault, s.calls[at:], v, fail)
					}
				}
				for at := 0; ; at++ {
					s := &spy{heap: h, at: at, fault: fault}
					sizes, fail := Needs(s, op, worldOf(t, h).right()[op])
					if len(s.calls) <= at {
						break
					}
					if len(sizes) > 0 || fail != (api.Fail{Err: fault.Err, At: fault.At}) || len(s.calls) != at+1 {
						t.Errorf("P2102: Needs(%d) with %v at %v: %v, %v", op, fault, s.calls[at:], sizes, fail)
					}
				}
			}
		})
	}
}
