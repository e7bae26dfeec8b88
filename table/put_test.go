package table

import (
	"slices"
	"testing"

	"hearth/api"
)

// At a key that is there the value's word is another, and nothing else.
func TestP1206PutAgain(t *testing.T) {
	x := rowed(t)
	for i, k := range x.k {
		for _, v := range []api.Value{null, x.m, fixnum(-7), x.m} {
			if at := turned(x.h, func() { put(t, x.h, x.m, k, v) }); len(at) > 0 && !slices.Equal(at, []int{x.e[i] + 2}) {
				t.Errorf("P1206: a put again has turned the words %v", at)
			}
			if w := word(x.h, x.e[i]+2); w != wordOf(v) {
				t.Errorf("P1206: the value's word is %d behind a put of %v", w, v)
			}
		}
	}
	if n, _ := x.h.TableCount(x.m); n != 4 {
		t.Errorf("P1206: the count behind puts again: %d", n)
	}
}

// What stood there is not looked at, nor is the chain behind it; no room is asked for.
func TestP1206PutAgainLooksAtNothing(t *testing.T) {
	x := rowed(t)
	for x.h.Fits(4) {
		thing(t, x.h, 13, 0, 77)
	}
	x.h.SetRaw(x.m, 1, 8)
	for _, w := range []int{7, 6, 5, 4, 50, 1<<20 + 1} {
		x.h.Poke(x.e[1]+2, w)
		with(x.h, x.e[1]+3, 7, func() { put(t, x.h, x.m, x.k[1], fixnum(w)) })
		if v, ok, fault := x.h.TableGet(x.m, x.k[1]); v != fixnum(w) || !ok || fault.Err != 0 {
			t.Errorf("P1206: behind a put over a wrong value: %v, %v, %v", v, ok, fault)
		}
	}
}

// A new key in a table that does not grow: which words are others.
func TestP1206PutNew(t *testing.T) {
	x := rowed(t)
	blocks := x.h.Blocks()
	at := turned(x.h, func() { put(t, x.h, x.m, x.none, null) })
	e := entryOf(t, x.h, x.m, x.none)
	want := []int{x.m.N + 1, x.e[2] + 3, e, e + 1, e + 2, e + 3}
	slices.Sort(want)
	if !slices.Equal(at, want) {
		t.Errorf("P1206: a put of a new key has turned the words %v, want %v", at, want)
	}
	if b, _ := x.h.Block(e); b != (api.Block{At: e, Kind: 13, Size: 4, Tag: 1}) || len(x.h.Blocks()) != len(blocks)+1 {
		t.Errorf("P1206: the new entry is %v", b)
	}
	if row := rowOf(x.h, spineOf(x.h, x.m), 2); !slices.Equal(row, append(slices.Clone(x.e), e)) {
		t.Errorf("P1206: the row is %v", row)
	}
	if n, _ := x.h.TableCount(x.m); n != 5 {
		t.Errorf("P1206: the count is %d", n)
	}
}

// The first key: a spine of four heads, then an entry, each of the table's serial.
func TestP1206PutFirst(t *testing.T) {
	h := heap(t, 4)
	box(t, h)
	box(t, h)
	m := empty(t, h)
	put(t, h, m, null, fixnum(3))
	var got []api.Block
	for _, b := range h.Blocks() {
		if b.Kind >= 12 {
			got = append(got, b)
		}
	}
	spine, e := spineOf(h, m), entryOf(t, h, m, null)
	want := []api.Block{{At: e, Kind: 13, Size: 4, Tag: 3}, {At: spine, Kind: 12, Size: 5, Tag: 3}}
	if !slices.Equal(got, want) {
		t.Errorf("P1206: the first put has made %v, want %v", got, want)
	}
	for slot := range 4 {
		w := nilWord
		if slot == slotOf(null, 0, 4) {
			w = wordOf(ref(e))
		}
		if word(h, spine+1+slot) != w {
			t.Errorf("P1206: the head %d is %d, want %d", slot, word(h, spine+1+slot), w)
		}
	}
	if word(h, e+1) != nilWord || word(h, e+2) != wordOf(fixnum(3)) || word(h, e+3) != nilWord || word(h, m.N+1) != 1 {
		t.Errorf("P1206: the entry %d %d %d, the count %d", word(h, e+1), word(h, e+2), word(h, e+3), word(h, m.N+1))
	}
}

// refit makes a hole: the entry at a place is unlinked and freed.
func (x row) refit(t *testing.T, k api.Value) {
	t.Helper()
	at := entryOf(t, x.h, x.m, k)
	if ok, fault := x.h.TableDelete(x.m, k); !ok || fault.Err != 0 {
		t.Fatalf("P1207: TableDelete(%v) = %v, %v", k, ok, fault)
	}
	var keep []int
	for b := range x.h.All() {
		if b.At != at {
			keep = append(keep, b.At)
		}
	}
	x.h.Keep(keep)
}

// A new entry stands in its row where its place belongs: ahead of all, between others.
func TestP1206PutWhereThePlaceBelongs(t *testing.T) {
	for i := range 3 {
		x := rowed(t)
		x.refit(t, x.k[i])
		put(t, x.h, x.m, x.none, null)
		if e := entryOf(t, x.h, x.m, x.none); e != x.e[i] || !slices.Equal(rowOf(x.h, spineOf(x.h, x.m), 2), x.e) {
			t.Errorf("P1206: the new entry stands at %d, the row is %v, want %v", e, rowOf(x.h, spineOf(x.h, x.m), 2), x.e)
		}
		for j, k := range x.k {
			if _, ok, fault := x.h.TableGet(x.m, k); ok != (i != j) || fault.Err != 0 {
				t.Errorf("P1206: the key %v: %v, %v", k, ok, fault)
			}
		}
	}
}

// full is a table of four heads with eight keys, three of them in the row 2: it grows at the next one.
func full(t *testing.T) row {
	t.Helper()
	x := rowed(t)
	for _, k := range append(alike(50, 0, 4, 2), alike(50, 3, 4, 2)...) {
		put(t, x.h, x.m, k, null)
	}
	if list, _ := x.h.PutNeeds(x.m, x.none); !slices.Equal(list, []int{9, 4}) {
		t.Fatalf("P1205: a table of eight keys needs %v", list)
	}
	return x
}

func TestP1206Grows(t *testing.T) {
	x := full(t)
	old := spineOf(x.h, x.m)
	heads := slices.Clone(x.h.Dump().Words[old : old+5])
	before, _ := x.h.Node(x.m)
	put(t, x.h, x.m, x.none, x.m)
	spine := spineOf(x.h, x.m)
	if b, _ := x.h.Block(spine); b != (api.Block{At: spine, Kind: 12, Size: 9, Tag: 1}) {
		t.Errorf("P1206: the new spine is %v", b)
	}
	if b, ok := x.h.Block(old); !ok || b.Size != 5 || !slices.Equal(x.h.Dump().Words[old:old+5], heads) {
		t.Errorf("P1206: the old spine has become %v, %v", b, x.h.Dump().Words[old:old+5])
	}
	met := 0
	for slot := range 8 {
		row := rowOf(x.h, spine, slot)
		met += len(row)
		if !slices.IsSorted(row) {
			t.Errorf("P1206: the row %d does not rise: %v", slot, row)
		}
		for _, e := range row {
			if k, _ := x.h.Get(ref(e), 1); slotOf(k, 0, 8) != slot {
				t.Errorf("P1206: the key %v is in the row %d of eight", k, slot)
			}
		}
	}
	if n, _ := x.h.TableCount(x.m); n != 9 || met != 9 {
		t.Errorf("P1206: the rows have %d entries, the count is %d", met, n)
	}
	for _, e := range append(before.Entries, api.Entry{Key: x.none, Value: x.m}) {
		if v, ok, fault := x.h.TableGet(x.m, e.Key); v != e.Value || !ok || fault.Err != 0 {
			t.Errorf("P1206: behind growing TableGet(%v) = %v, %v, %v, want %v", e.Key, v, ok, fault, e.Value)
		}
	}
}

// Tables of many keys of all kinds, their entries mixed with other objects; holes are filled again.
func TestP1206GrowsAgainAndAgain(t *testing.T) {
	h := heap(t, 4096)
	m := empty(t, h)
	want := map[api.Value]api.Value{}
	for n := range 3000 {
		k := []api.Value{fixnum(n - 1500), char(n), box(t, h), fixnum(n * n)}[n%4]
		put(t, h, m, k, fixnum(n))
		want[k] = fixnum(n)
		if n%3 == 0 {
			thing(t, h, 13, 0, 0)
		}
		if n%7 == 0 {
			h.TableDelete(m, k)
			delete(want, k)
		}
	}
	if b, _ := h.Block(spineOf(h, m)); b.Size != 513 {
		t.Errorf("P1206: the spine has %d words", b.Size)
	}
	for k, w := range want {
		if v, ok, fault := h.TableGet(m, k); v != w || !ok || fault.Err != 0 {
			t.Fatalf("P1206: TableGet(%v) = %v, %v, %v, want %v", k, v, ok, fault, w)
		}
	}
	if n, _ := h.TableCount(m); n != len(want) {
		t.Errorf("P1206: the count is %d, want %d", n, len(want))
	}
}

// A table that grows looks at all rows: at headers, keys and chains, not at values.
func TestP1206GrowingReadsAllRows(t *testing.T) {
	x := full(t)
	spine := spineOf(x.h, x.m)
	var wrong []int
	for slot := range 4 {
		wrong = append(wrong, spine+1+slot)
		for _, e := range rowOf(x.h, spine, slot) {
			wrong = append(wrong, e, e+1, e+3)
		}
	}
	for _, at := range wrong {
		with(x.h, at, 7, func() {
			unchanged(t, "P1206: TablePut with a wrong word in a row", x.h, func() {
				if fault := x.h.TablePut(x.m, x.none, null); fault != corrupt(at) {
					t.Errorf("P1206: a table grows with the wrong word %d: %v", at, fault)
				}
			})
		})
	}
	for slot := range 4 {
		for _, e := range rowOf(x.h, spine, slot) {
			x.h.Poke(e+2, 7)
		}
	}
	put(t, x.h, x.m, x.none, null)
}

// The walk comes first, then the rows, head by head: not the least index is told, but the first one that is come to.
func TestP1206GrowingReadsHeadByHead(t *testing.T) {
	x := full(t)
	spine := spineOf(x.h, x.m)
	var order []int
	read := func(slot int) {
		order = append(order, spine+1+slot)
		for _, e := range rowOf(x.h, spine, slot) {
			order = append(order, e, e+1, e+3)
		}
	}
	read(2) // the row of the key
	for _, slot := range []int{0, 1, 3} {
		read(slot)
	}
	for i, first := range order {
		for _, second := range order[i+1:] {
			with(x.h, first, 7, func() {
				with(x.h, second, 7, func() {
					if fault := x.h.TablePut(x.m, x.none, null); fault != corrupt(first) {
						t.Errorf("P1206: the wrong words %d, %d: %v", first, second, fault)
					}
				})
			})
		}
	}
}

// A table that does not grow looks at the row of the key alone.
func TestP1206NotGrowingReadsOneRow(t *testing.T) {
	x := rowed(t)
	spine := spineOf(x.h, x.m)
	e := entryOf(t, x.h, x.m, x.other)
	for i, at := range []int{spine + 1, spine + 2, spine + 4, e, e + 1, e + 2, e + 3, x.e[0] + 2, x.e[1] + 2} {
		k := alike(100, 2, 4, 10)[i]
		x.h.SetRaw(x.m, 1, 4)
		with(x.h, at, 7, func() { put(t, x.h, x.m, k, null) })
	}
}

func TestP1206Full(t *testing.T) {
	for _, x := range []row{rowed(t), full(t)} {
		list, _ := x.h.PutNeeds(x.m, x.none)
		for x.h.Fits(4) {
			thing(t, x.h, 13, 0, 77)
		}
		unchanged(t, "P1206: TablePut without room", x.h, func() {
			if fault := x.h.TablePut(x.m, x.none, null); fault != no(20) {
				t.Errorf("P1206: TablePut without room for %v: %v", list, fault)
			}
		})
		with(x.h, x.e[1]+3, 7, func() {
			if fault := x.h.TablePut(x.m, x.none, null); fault != corrupt(x.e[1]+3) {
				t.Errorf("P1206: TablePut without room, with a wrong word: %v", fault)
			}
		})
		put(t, x.h, x.m, x.k[0], null)
	}
	x := full(t)
	for x.h.Fits(4) {
		thing(t, x.h, 13, 0, 77)
	}
	with(x.h, spineOf(x.h, x.m)+1, 7, func() {
		if fault := x.h.TablePut(x.m, x.none, null); fault != corrupt(spineOf(x.h, x.m)+1) {
			t.Errorf("P1206: a table grows without room, with a wrong word in another row: %v", fault)
		}
	})
}

// Room for the entry alone, or for the spine alone, is not enough where both are asked for.
func TestP1206FullForBoth(t *testing.T) {
	h := heap(t, 2)
	m := empty(t, h)
	for h.Fits(2) {
		box(t, h)
	}
	unchanged(t, "P1206: TablePut without room for the spine", h, func() {
		if fault := h.TablePut(m, null, null); !h.Fits(4) || h.Fits(5) || fault != no(20) {
			t.Errorf("P1206: TablePut without room for the spine: %v", fault)
		}
	})
	h = heap(t, 2)
	m = empty(t, h)
	for range 15 {
		empty(t, h)
	}
	unchanged(t, "P1206: TablePut without room for the entry", h, func() {
		if fault := h.TablePut(m, null, null); !h.Fits(5) || h.Fits(5, 4) || fault != no(20) {
			t.Errorf("P1206: TablePut without room for the entry: %v", fault)
		}
	})
}

// The link of a free block that is to be taken is wrong.
func TestP1206WrongLinks(t *testing.T) {
	x := rowed(t)
	free := x.h.Dump().Heads[1]
	x.h.Poke(free, 7)
	unchanged(t, "P1206: TablePut with a wrong link", x.h, func() {
		if fault := x.h.TablePut(x.m, x.none, null); fault != corrupt(free) {
			t.Errorf("P1206: TablePut with the wrong link %d: %v", free, fault)
		}
	})

	h := heap(t, 4)
	m, other := empty(t, h), empty(t, h)
	put(t, h, other, null, null)
	free = h.Dump().Heads[2]
	h.Poke(free, 7)
	unchanged(t, "P1206: TablePut with a wrong link where the spine is to stand", h, func() {
		if fault := h.TablePut(m, null, null); fault != corrupt(free) {
			t.Errorf("P1206: TablePut with the wrong link %d: %v", free, fault)
		}
	})
}

// If the fault comes at the entry, and the table grows, the new spine stays made; nothing leads to it.
func TestP1206TheSpineStays(t *testing.T) {
	for _, x := range []row{{h: heap(t, 4)}, full(t)} {
		if x.m == nobody {
			x.m, x.none = empty(t, x.h), null
		}
		list, _ := x.h.PutNeeds(x.m, x.none)
		free := x.h.Dump().Heads[1]
		x.h.Poke(free, 7)
		old, before := x.h.Dump(), len(x.h.Blocks())
		if fault := x.h.TablePut(x.m, x.none, null); fault != corrupt(free) {
			t.Errorf("P1206: TablePut with the wrong link %d: %v", free, fault)
		}
		var made []api.Block
		for b := range x.h.All() {
			if !slices.Contains(old.Blocks, b) {
				made = append(made, b)
			}
		}
		if len(made) != 1 || len(x.h.Blocks()) != before+1 || made[0].Kind != 12 || made[0].Size != list[0] || made[0].Tag != 1 {
			t.Fatalf("P1206: behind a fault at the entry there are besides: %v", made)
		}
		for i := 1; i < made[0].Size; i++ {
			if word(x.h, made[0].At+i) != nilWord {
				t.Errorf("P1206: the head %d of the new spine is %d", i, word(x.h, made[0].At+i))
			}
		}
		for _, b := range old.Blocks {
			for i := range b.Size {
				if word(x.h, b.At+i) != old.Words[b.At+i] {
					t.Errorf("P1206: the word %d of %v has been turned", i, b)
				}
			}
		}
	}
}

func TestP1206CountWraps(t *testing.T) {
	h := heap(t, 4)
	m := empty(t, h)
	h.SetRaw(m, 1, greatest)
	put(t, h, m, null, null)
	if n, _ := h.TableCount(m); n != least {
		t.Errorf("P1206: the count behind %d is %d", greatest, n)
	}
	if ok, fault := h.TableDelete(m, null); !ok || fault.Err != 0 {
		t.Errorf("P1207: TableDelete: %v, %v", ok, fault)
	}
	if n, _ := h.TableCount(m); n != greatest {
		t.Errorf("P1207: the count behind %d is %d", least, n)
	}
}

// Heads that a right value has led astray: what they come to is gone over, each entry once.
func TestP1206GrowsWithEntriesThatAreMetTwice(t *testing.T) {
	x := full(t)
	spine := spineOf(x.h, x.m)
	for slot := range 4 {
		if slot != 2 {
			x.h.Set(ref(spine), 1+slot, ref(x.e[1]))
		}
	}
	put(t, x.h, x.m, x.none, null)
	met := 0
	for slot := range 8 {
		row := rowOf(x.h, spineOf(x.h, x.m), slot)
		met += len(row)
		for _, e := range row {
			if k, _ := x.h.Get(ref(e), 1); slotOf(k, 0, 8) != slot {
				t.Errorf("P1206: the key %v is in the row %d of eight", k, slot)
			}
		}
	}
	if n, _ := x.h.TableCount(x.m); n != 9 || met != 4 {
		t.Errorf("P1206: the rows have %d entries, want 4; the count is %d", met, n)
	}
	if _, ok, fault := x.h.TableGet(x.m, x.other); ok || fault.Err != 0 {
		t.Errorf("P1206: a key that no row came to: %v, %v", ok, fault)
	}
}

func TestP1207Delete(t *testing.T) {
	for i := range 3 {
		x := rowed(t)
		lead := x.head
		if i > 0 {
			lead = x.e[i-1] + 3
		}
		to := word(x.h, x.e[i]+3)
		at := turned(x.h, func() {
			if ok, fault := x.h.TableDelete(x.m, x.k[i]); !ok || fault.Err != 0 {
				t.Errorf("P1207: TableDelete(%v) = %v, %v", x.k[i], ok, fault)
			}
		})
		want := []int{x.m.N + 1, lead}
		slices.Sort(want)
		if !slices.Equal(at, want) || word(x.h, lead) != to {
			t.Errorf("P1207: TableDelete has turned the words %v, want %v", at, want)
		}
		if b, ok := x.h.Block(x.e[i]); !ok || b.Kind != 13 {
			t.Errorf("P1207: the entry has become %v", b)
		}
		if n, _ := x.h.TableCount(x.m); n != 3 {
			t.Errorf("P1207: the count is %d", n)
		}
		unchanged(t, "P1207: TableDelete again", x.h, func() {
			if ok, fault := x.h.TableDelete(x.m, x.k[i]); ok || fault.Err != 0 {
				t.Errorf("P1207: TableDelete(%v) again: %v, %v", x.k[i], ok, fault)
			}
		})
		for j, k := range x.k {
			if v, ok, _ := x.h.TableGet(x.m, k); ok != (i != j) || ok && v != fixnum(100+j) {
				t.Errorf("P1207: behind it TableGet(%v) = %v, %v", k, v, ok)
			}
		}
	}
}

// The chain of the entry that goes is read, its value is not.
func TestP1207DeleteReadsTheChain(t *testing.T) {
	for i := range 3 {
		x := rowed(t)
		for _, w := range []int{0, voidWord, 7, wordOf(ref(x.e[i])), wordOf(x.m)} {
			with(x.h, x.e[i]+3, w, func() {
				unchanged(t, "P1207: TableDelete with a wrong chain", x.h, func() {
					if ok, fault := x.h.TableDelete(x.m, x.k[i]); ok || fault != corrupt(x.e[i]+3) {
						t.Errorf("P1207: TableDelete with a wrong chain: %v, %v", ok, fault)
					}
				})
			})
		}
		x.h.Poke(x.e[i]+2, 7)
		if ok, fault := x.h.TableDelete(x.m, x.k[i]); !ok || fault.Err != 0 {
			t.Errorf("P1207: TableDelete with a wrong value: %v, %v", ok, fault)
		}
	}
}

func TestP1207DeleteAndPutAgain(t *testing.T) {
	h := heap(t, 40)
	m := empty(t, h)
	for n := range 200 {
		k := fixnum(n % 9)
		put(t, h, m, k, fixnum(n))
		if ok, fault := h.TableDelete(m, k); !ok || fault.Err != 0 {
			t.Fatalf("P1207: TableDelete(%v) = %v, %v", k, ok, fault)
		}
		if _, ok, _ := h.TableGet(m, k); ok {
			t.Fatalf("P1207: the key %v is still there", k)
		}
	}
	if n, _ := h.TableCount(m); n != 0 {
		t.Errorf("P1207: the count is %d", n)
	}
	if b, _ := h.Block(spineOf(h, m)); b.Size != 5 {
		t.Errorf("P1206: a table of one key at a time has grown: %v", b)
	}
}
