package table

import (
	"slices"
	"testing"

	"hearth/api"
)

// pruned makes a call of Prune, and looks at what it answers and at the count behind it.
func pruned(t *testing.T, h *Heap, m api.Value, dead []int, want, left int) {
	t.Helper()
	if n, fault := h.Prune(m, dead); n != want || fault.Err != 0 {
		t.Errorf("P1208: Prune(%v) = %d, %v, want %d", dead, n, fault, want)
	}
	if n, _ := h.TableCount(m); n != left {
		t.Errorf("P1208: the count behind it is %d, want %d", n, left)
	}
}

// Each set of the three entries of a row goes.
func TestP1208Prune(t *testing.T) {
	for set := range 8 {
		x := rowed(t)
		var dead, stay, want []int
		for i, e := range x.e {
			if set>>i&1 == 1 {
				dead = append(dead, e)
			} else {
				stay = append(stay, e)
			}
		}
		lead := x.head
		for _, e := range x.e {
			if !slices.Contains(dead, e) {
				lead = e + 3
			} else if !slices.Contains(want, lead) {
				want = append(want, lead)
			}
		}
		if len(dead) > 0 {
			want = append(want, x.m.N+1)
		}
		slices.Sort(want)
		at := turned(x.h, func() { pruned(t, x.h, x.m, dead, len(dead), 4-len(dead)) })
		if !slices.Equal(at, want) || !slices.Equal(rowOf(x.h, spineOf(x.h, x.m), 2), stay) {
			t.Errorf("P1208: Prune of %v: the words %v are others, want %v; the row is %v, want %v", dead, at, want, rowOf(x.h, spineOf(x.h, x.m), 2), stay)
		}
		for i, k := range x.k {
			if v, ok, _ := x.h.TableGet(x.m, k); ok != slices.Contains(stay, x.e[i]) || ok && v != fixnum(100+i) {
				t.Errorf("P1208: Prune of %v, the key %v: %v, %v", dead, k, v, ok)
			}
		}
		if len(x.h.Blocks()) != 6 {
			t.Errorf("P1208: Prune of %v has freed or made an object", dead)
		}
	}
}

// dead may be any ints, in any order, as often as may be; what is no such place is nothing.
func TestP1208AnyPlaces(t *testing.T) {
	x := rowed(t)
	other := empty(t, x.h)
	put(t, x.h, other, x.k[0], null)
	gone := entryOf(t, x.h, other, x.k[0])
	x.h.TableDelete(x.m, x.k[1])
	none := append(wild(), x.m.N, spineOf(x.h, x.m), x.e[0]+1, x.e[0]-1, x.head, gone, x.e[1], 5, 300)
	unchanged(t, "P1208: Prune of what is no entry of the table", x.h, func() { pruned(t, x.h, x.m, none, 0, 3) })
	unchanged(t, "P1208: Prune of nothing", x.h, func() { pruned(t, x.h, x.m, nil, 0, 3) })
	list := append(none, x.e[2], x.e[0], x.e[2], x.e[2])
	old := slices.Clone(list[:cap(list)])
	pruned(t, x.h, x.m, list, 2, 1)
	if !slices.Equal(list[:cap(list)], old) {
		t.Errorf("P1211: Prune has changed its list")
	}
	if len(rowOf(x.h, spineOf(x.h, x.m), 2)) != 0 {
		t.Errorf("P1208: the row is %v", rowOf(x.h, spineOf(x.h, x.m), 2))
	}
	if _, ok, _ := x.h.TableGet(other, x.k[0]); !ok {
		t.Errorf("P1208: Prune has unlinked another table's entry")
	}
}

// The count is how many stay, whatever it was; of a table without a spine too.
func TestP1208TheCountIsMended(t *testing.T) {
	x := rowed(t)
	bare := empty(t, x.h)
	for _, n := range append(wild(), 0, 5) {
		x.h.SetRaw(x.m, 1, n)
		pruned(t, x.h, x.m, nil, 0, 4)
		x.h.SetRaw(bare, 1, n)
		pruned(t, x.h, bare, x.e, 0, 0)
	}
	if word(x.h, bare.N+2) != nilWord {
		t.Errorf("P1208: Prune has given a table a spine")
	}
}

func TestP1208WrongWords(t *testing.T) {
	x := full(t)
	spine := spineOf(x.h, x.m)
	var order []int
	for slot := range 4 {
		order = append(order, spine+1+slot)
		for _, e := range rowOf(x.h, spine, slot) {
			order = append(order, e, e+1, e+3)
		}
	}
	refused := func(want int, wrong ...int) {
		t.Helper()
		unchanged(t, "P1208: Prune with a wrong word", x.h, func() {
			if n, fault := x.h.Prune(x.m, x.e); n != 0 || fault != corrupt(want) {
				t.Errorf("P1208: Prune with the wrong words %v: %d, %v", wrong, n, fault)
			}
		})
	}
	for i, first := range order {
		with(x.h, first, 7, func() {
			refused(first, first)
			for _, second := range order[i+1:] {
				with(x.h, second, 7, func() { refused(first, first, second) })
			}
		})
	}
	for slot := range 4 {
		for _, e := range rowOf(x.h, spine, slot) {
			x.h.Poke(e+2, 7)
		}
	}
	pruned(t, x.h, x.m, x.e, 3, 5)
}

// Heads and chains that were led astray by right values: each entry is counted once, and none of them leads to one that is gone.
func TestP1208EntriesThatAreMetTwice(t *testing.T) {
	x := rowed(t)
	spine := spineOf(x.h, x.m)
	x.h.Set(ref(spine), 1, ref(x.e[0]))
	x.h.Set(ref(spine), 2, ref(x.e[1]))
	x.h.Set(ref(spine), 4, ref(x.e[2]))
	pruned(t, x.h, x.m, []int{x.e[1]}, 1, 2)
	for slot, want := range [][]int{{x.e[0], x.e[2]}, {x.e[2]}, {x.e[0], x.e[2]}, {x.e[2]}} {
		if row := rowOf(x.h, spine, slot); !slices.Equal(row, want) {
			t.Errorf("P1208: the row %d is %v, want %v", slot, row, want)
		}
	}
	if w := word(x.h, x.e[1]+3); w != wordOf(ref(x.e[2])) {
		t.Errorf("P1208: the chain of the entry that is gone is %d", w)
	}
	pruned(t, x.h, x.m, x.e, 2, 0)
	for slot := range 4 {
		if row := rowOf(x.h, spine, slot); len(row) > 0 {
			t.Errorf("P1208: the row %d is %v", slot, row)
		}
	}
}

// A long row, and many heads that lead into it: the work is no more than the words, a few times over.
func TestP1208LongRows(t *testing.T) {
	h := heap(t, 4096)
	m := empty(t, h)
	spine := thing(t, h, 12, 512, 1)
	h.Set(m, 2, spine)
	var dead []int
	last := null
	for range 50000 {
		dead = append(dead, thing(t, h, 13, 0, 1).N)
	}
	for _, at := range slices.Backward(dead) {
		h.Set(ref(at), 3, last)
		last = ref(at)
	}
	for i := range 512 {
		h.Set(spine, 1+i, last)
	}
	pruned(t, h, m, dead[1:], 49999, 1)
	for _, slot := range []int{0, 1, 511} {
		if row := rowOf(h, spine.N, slot); !slices.Equal(row, dead[:1]) {
			t.Errorf("P1208: the row %d has %d entries", slot, len(row))
		}
	}
	n, fault := h.Node(m)
	if fault.Err != 0 || !slices.Equal(n.Entries, []api.Entry{{Key: void, Value: void}}) {
		t.Errorf("P1209: the entries are %v, %v", n.Entries, fault)
	}
}
