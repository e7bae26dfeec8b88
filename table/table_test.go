package table

import (
	"slices"
	"testing"

	"hearth/api"
	"hearth/object"
)

func TestP1201New(t *testing.T) {
	for _, n := range []int{1, 2, 17, 4096} {
		h := heap(t, n)
		if h.Heap == nil || h.Words() != 64*n || len(h.Blocks()) != 0 || h.Wrong() != -1 {
			t.Errorf("P1201: New(%d) has %d words, the objects %v", n, h.Words(), h.Blocks())
		}
	}
}

func TestP1201NewRefuses(t *testing.T) {
	for _, n := range append(wild(), 0, 4097) {
		o, want := object.New(n)
		if h, errno := New(n); o != nil || h != nil || errno != want || errno != 1 {
			t.Errorf("P1201: New(%d) = %v, %d", n, h, errno)
		}
	}
}

func TestP1201MakeTable(t *testing.T) {
	h, o := heap(t, 2), blank(2).o
	for serial := 1; serial <= 3; serial++ {
		m := empty(t, h)
		want, _ := o.Make(10, 0, 0)
		b, _ := h.Block(m.N)
		if m != want || b != (api.Block{At: m.N, Kind: 10, Size: 3, Serial: serial}) {
			t.Errorf("P1201: MakeTable() = %v, the object %v", m, b)
		}
		if word(h, m.N+1) != 0 || word(h, m.N+2) != nilWord {
			t.Errorf("P1201: a new table has the words %d, %d", word(h, m.N+1), word(h, m.N+2))
		}
	}
	if !sameDump(h.Dump(), o.Dump()) {
		t.Errorf("P1201: MakeTable has made something else than Make")
	}
}

func TestP1201MakeTableFaults(t *testing.T) {
	h := heap(t, 1)
	for range 16 {
		empty(t, h)
	}
	unchanged(t, "P1201: MakeTable without room", h, func() {
		if m, fault := h.MakeTable(); m != nobody || fault != no(20) {
			t.Errorf("P1201: MakeTable without room: %v, %v", m, fault)
		}
	})
	h = heap(t, 1)
	empty(t, h)
	h.Poke(4, 0)
	unchanged(t, "P1201: MakeTable with a wrong link", h, func() {
		if m, fault := h.MakeTable(); m != nobody || fault != corrupt(4) {
			t.Errorf("P1201: MakeTable with a wrong link: %v, %v", m, fault)
		}
	})
}

// The calls of the chapters 8 and 9 are the heap's too, in turns with its own.
func TestP1201AHeapIsAnObjectHeap(t *testing.T) {
	h := heap(t, 4)
	m, k := empty(t, h), box(t, h)
	put(t, h, m, k, null)
	if x, fault := h.Get(m, 2); x != ref(spineOf(h, m)) || fault.Err != 0 {
		t.Errorf("P1201: the spine by Get: %v, %v", x, fault)
	}
	if n, fault := h.Raw(m, 1); n != 1 || fault.Err != 0 {
		t.Errorf("P1201: the count by Raw: %d, %v", n, fault)
	}
	if fault := h.Set(ref(entryOf(t, h, m, k)), 2, k); fault.Err != 0 {
		t.Errorf("P1201: Set of an entry's value: %v", fault)
	}
	if v, ok, fault := h.TableGet(m, k); v != k || !ok || fault.Err != 0 {
		t.Errorf("P1204: a value that Set has put: %v, %v, %v", v, ok, fault)
	}
	made, _ := h.Alloc(10, 3, 0)
	h.Write(made, 2, nilWord)
	put(t, h, ref(made), k, k)
	if n, errno := h.Keep(nil); n != 7 || errno != 0 {
		t.Errorf("P1201: Keep: %d, %d", n, errno)
	}
	if _, fault := h.TableCount(m); fault != no(30) {
		t.Errorf("P1202: the count of what was freed: %v", fault)
	}
}

// call is a call on a table, and the promise that it is held to.
type call struct {
	name   string
	keyed  bool // a key is handed in
	valued bool // and a value
	make   func(h *Heap, t, k, v api.Value) (zero bool, fault api.Fault)
}

// calls are all calls on a table but TableCount; zero is whether their other results are.
func calls() []call {
	return []call{
		{"TableGet", true, false, func(h *Heap, t, k, _ api.Value) (bool, api.Fault) {
			v, ok, fault := h.TableGet(t, k)
			return v == nobody && !ok, fault
		}},
		{"TablePut", true, true, func(h *Heap, t, k, v api.Value) (bool, api.Fault) {
			return true, h.TablePut(t, k, v)
		}},
		{"TableDelete", true, false, func(h *Heap, t, k, _ api.Value) (bool, api.Fault) {
			ok, fault := h.TableDelete(t, k)
			return !ok, fault
		}},
		{"PutNeeds", true, false, func(h *Heap, t, k, _ api.Value) (bool, api.Fault) {
			list, fault := h.PutNeeds(t, k)
			return len(list) == 0, fault
		}},
		{"Prune", false, false, func(h *Heap, t, _, _ api.Value) (bool, api.Fault) {
			n, fault := h.Prune(t, []int{0})
			return n == 0, fault
		}},
	}
}

// refuses tells a fault, if a call does not answer one, or has other results or has changed anything.
func refuses(t *testing.T, h *Heap, c call, m, k, v api.Value, want api.Fault) {
	t.Helper()
	unchanged(t, "P1202: "+c.name, h, func() {
		if zero, fault := c.make(h, m, k, v); fault != want || !zero {
			t.Errorf("P1202: %s(%v, %v, %v) answers %v (zero: %v), want %v", c.name, m, k, v, fault, zero, want)
		}
	})
}

func TestP1202NoObject(t *testing.T) {
	h := heap(t, 4)
	m := empty(t, h)
	put(t, h, m, null, null)
	list := append(strangers(), null, fixnum(m.N), char(m.N), api.Value{Kind: 3, N: m.N}, ref(m.N+1), ref(m.N+2), ref(250))
	for _, n := range wild() {
		list = append(list, ref(n))
	}
	for _, v := range list {
		for _, c := range calls() {
			refuses(t, h, c, v, nobody, nobody, no(30))
		}
		if n, fault := h.TableCount(v); n != 0 || fault != no(30) {
			t.Errorf("P1204: TableCount(%v) = %d, %v", v, n, fault)
		}
	}
}

func TestP1202NoTable(t *testing.T) {
	h := heap(t, 20)
	m := empty(t, h)
	put(t, h, m, null, null)
	text, _ := h.MakeText([]byte("table"))
	list := []api.Value{text, ref(spineOf(h, m)), ref(entryOf(t, h, m, null))}
	for _, kind := range []int{1, 2, 3, 5, 6, 7, 8, 9, 11} {
		list = append(list, thing(t, h, kind, 0, 0))
	}
	for _, v := range list {
		for _, c := range calls() {
			refuses(t, h, c, v, nobody, nobody, no(31))
		}
		if n, fault := h.TableCount(v); n != 0 || fault != no(31) {
			t.Errorf("P1204: TableCount(%v) = %d, %v", v, n, fault)
		}
		with(h, v.N, 0, func() {
			for _, c := range calls() {
				refuses(t, h, c, v, nobody, nobody, corrupt(v.N))
			}
			if n, fault := h.TableCount(v); n != 0 || fault != corrupt(v.N) {
				t.Errorf("P1204: TableCount(%v) with a wrong header: %d, %v", v, n, fault)
			}
		})
	}
}

// Each of the things that may be wrong, in the order in which they are looked for: whichever of them are, the first one is told.
func TestP1202Order(t *testing.T) {
	h := heap(t, 4)
	m, frame := empty(t, h), thing(t, h, 11, 0, 0)
	put(t, h, m, null, null)
	spine := spineOf(h, m)
	slot := slotOf(null, 0, 4)
	old := h.Dump().Words
	for set := range 1 << 6 {
		wrong := func(i int) bool { return set>>i&1 == 1 }
		k, v := null, null
		var faults []api.Fault
		if wrong(0) {
			h.Poke(m.N, 1)
			faults = append(faults, corrupt(m.N))
		}
		keyed := len(faults)
		if wrong(1) {
			k = frame
			faults = append(faults, no(33))
		}
		valued := len(faults)
		if wrong(2) {
			v = nobody
			faults = append(faults, no(33))
		}
		rest := len(faults)
		if wrong(3) {
			h.Poke(m.N+2, 8)
			faults = append(faults, corrupt(m.N+2))
		} else if wrong(4) {
			h.Poke(spine, 8)
			faults = append(faults, corrupt(spine))
		} else if wrong(5) {
			h.Poke(spine+1+slot, 8)
			faults = append(faults, corrupt(spine+1+slot))
		}
		for _, c := range calls() {
			seen := slices.Clone(faults[:keyed])
			if c.keyed {
				seen = append(seen, faults[keyed:valued]...)
			}
			if c.valued {
				seen = append(seen, faults[valued:rest]...)
			}
			if seen = append(seen, faults[rest:]...); len(seen) > 0 {
				refuses(t, h, c, m, k, v, seen[0])
			}
		}
		n, fault := h.TableCount(m)
		if wrong(0) && (n != 0 || fault != corrupt(m.N)) || !wrong(0) && (n != 1 || fault != api.Fault{}) {
			t.Errorf("P1204: TableCount answers %d, %v, header wrong: %v", n, fault, wrong(0))
		}
		for at, w := range old {
			h.Poke(at, w)
		}
	}
}

// What may be a key, or a value, is what a pair's field may be.
func TestP1202KeysAndValues(t *testing.T) {
	h := heap(t, 40)
	m := empty(t, h)
	text, _ := h.MakeText([]byte("key"))
	good := []api.Value{text, m, null, void, {Kind: 3, N: 1}, {Kind: 3, N: 2}, {Kind: 3, N: 4}, {Kind: 3, N: 5}, fixnum(0), fixnum(-1 << 60), fixnum(1<<60 - 1), char(0), char(0xD7FF), char(0xE000), char(0x10FFFF)}
	for _, kind := range []int{1, 2, 3, 5, 6, 7, 8, 9, 10} {
		good = append(good, thing(t, h, kind, 0, 3))
	}
	bad := append(strangers(), ref(text.N+1), ref(2500), thing(t, h, 11, 0, 0), thing(t, h, 12, 4, 0), thing(t, h, 13, 0, 0))
	p := thing(t, h, 1, 0, 0)
	for _, x := range bad {
		if h.Set(p, 1, x) != no(33) {
			t.Errorf("P1202: a pair takes %v", x)
		}
		for _, c := range calls() {
			if c.keyed {
				refuses(t, h, c, m, x, null, no(33))
			}
			if c.valued {
				refuses(t, h, c, m, null, x, no(33))
			}
		}
	}
	for i, x := range good {
		if h.Set(p, 1, x) != (api.Fault{}) {
			t.Errorf("P1202: a pair does not take %v", x)
		}
		y := good[len(good)-1-i]
		put(t, h, m, x, y)
		if v, ok, fault := h.TableGet(m, x); v != y || !ok || fault.Err != 0 {
			t.Errorf("P1204: TableGet(%v) = %v, %v, %v, want %v", x, v, ok, fault, y)
		}
	}
	if n, _ := h.TableCount(m); n != len(good) {
		t.Errorf("P1204: %d keys are there, want %d", n, len(good))
	}
	for _, x := range bad {
		if fault := h.TablePut(m, good[0], x); fault != no(33) {
			t.Errorf("P1202: the value %v at a key that is there: %v", x, fault)
		}
	}
}

// Whether the header of a key's or of a value's object is right is nothing to a table.
func TestP1202HeadersOfKeys(t *testing.T) {
	h := heap(t, 4)
	m, k, v := empty(t, h), box(t, h), box(t, h)
	h.Poke(k.N, 0)
	h.Poke(v.N, 7)
	put(t, h, m, k, v)
	if x, ok, fault := h.TableGet(m, k); x != v || !ok || fault.Err != 0 {
		t.Errorf("P1202: a key with a wrong header: %v, %v, %v", x, ok, fault)
	}
	if ok, fault := h.TableDelete(m, k); !ok || fault.Err != 0 {
		t.Errorf("P1202: TableDelete of a key with a wrong header: %v, %v", ok, fault)
	}
}

// Which words are wrong at a table's spine.
func TestP1202WrongSpines(t *testing.T) {
	h := heap(t, 8)
	m, other, k := empty(t, h), empty(t, h), box(t, h)
	put(t, h, m, null, null)
	put(t, h, other, null, null)
	own, _ := h.Block(m.N)
	stray := thing(t, h, 12, 8, own.Serial+7)
	for _, w := range []int{0, 8, 1, voidWord, 4, 5, 6, 7, least, greatest, wordOf(ref(spineOf(h, other))), wordOf(stray), wordOf(k), wordOf(m), wordOf(ref(entryOf(t, h, m, null))), wordOf(ref(200)), wordOf(char(5))} {
		with(h, m.N+2, w, func() {
			for _, c := range calls() {
				refuses(t, h, c, m, null, null, corrupt(m.N+2))
			}
		})
	}
	with(h, m.N+2, nilWord, func() {
		if v, ok, fault := h.TableGet(m, null); v != nobody || ok || fault.Err != 0 {
			t.Errorf("P1204: TableGet without a spine: %v, %v, %v", v, ok, fault)
		}
		if ok, fault := h.TableDelete(m, null); ok || fault.Err != 0 {
			t.Errorf("P1207: TableDelete without a spine: %v, %v", ok, fault)
		}
	})
}

// A spine that another call has made may have any number of heads that there is.
func TestP1202Capacity(t *testing.T) {
	for _, heads := range []int{4, 8, 16, 32, 64, 128, 256, 512} {
		h := heap(t, 20)
		m := empty(t, h)
		spine := thing(t, h, 12, heads, 1)
		h.Set(m, 2, spine)
		for n := range 20 {
			h.SetRaw(m, 1, 0)
			put(t, h, m, fixnum(n), fixnum(-n))
			at := entryOf(t, h, m, fixnum(n))
			if slot := slotOf(fixnum(n), 0, heads); !slices.Contains(rowOf(h, spine.N, slot), at) {
				t.Errorf("P1203: of %d heads the one of %d is not %d", heads, n, slot)
			}
			if v, ok, fault := h.TableGet(m, fixnum(n)); v != fixnum(-n) || !ok || fault.Err != 0 {
				t.Errorf("P1204: TableGet(%d) of %d heads: %v, %v, %v", n, heads, v, ok, fault)
			}
		}
		if spineOf(h, m) != spine.N {
			t.Errorf("P1205: a table of %d heads has another spine", heads)
		}
	}
}

// row is a table with the fixnums k, one behind the other in a row of four heads, their entries at e; other is one of another row.
type row struct {
	h     *Heap
	m     api.Value
	k     []api.Value
	e     []int
	head  int // the index of the row's head
	none  api.Value
	other api.Value
}

func rowed(t *testing.T) row {
	t.Helper()
	h := heap(t, 8)
	x := row{h: h, m: empty(t, h)}
	list := alike(0, 2, 4, 4)
	x.k, x.none, x.other = list[:3], list[3], alike(0, 1, 4, 1)[0]
	put(t, h, x.m, x.other, null)
	for i, k := range x.k {
		put(t, h, x.m, k, fixnum(100+i))
		x.e = append(x.e, entryOf(t, h, x.m, k))
	}
	x.head = spineOf(h, x.m) + 1 + 2
	if !slices.Equal(rowOf(h, spineOf(h, x.m), 2), x.e) || !slices.IsSorted(x.e) {
		t.Fatalf("P1206: the row is %v, the entries stand at %v", rowOf(h, spineOf(h, x.m), 2), x.e)
	}
	return x
}

// asks looks what TableGet, PutNeeds and the others answer of a key, with a wrong word; none of them changes anything, or finds the key.
func (x row) asks(t *testing.T, k api.Value, want api.Fault) {
	t.Helper()
	for _, c := range calls() {
		if c.keyed {
			refuses(t, x.h, c, x.m, k, null, want)
		}
	}
}

// finds looks whether a key is found, as it was put.
func (x row) finds(t *testing.T, k api.Value) {
	t.Helper()
	v, ok, fault := x.h.TableGet(x.m, k)
	if i := slices.Index(x.k, k); i >= 0 && v != fixnum(100+i) || !ok || fault.Err != 0 {
		t.Errorf("P1203: TableGet(%v) = %v, %v, %v", k, v, ok, fault)
	}
	if list, fault := x.h.PutNeeds(x.m, k); len(list) != 0 || fault.Err != 0 {
		t.Errorf("P1205: PutNeeds(%v) = %v, %v", k, list, fault)
	}
}

func TestP1203WrongHeads(t *testing.T) {
	x := rowed(t)
	x.finds(t, x.k[2])
	pair := thing(t, x.h, 1, 0, 1)
	foreign := thing(t, x.h, 13, 0, 99)
	for _, w := range []int{0, 8, voidWord, 1, 4, 5, 6, 7, least, greatest, wordOf(pair), wordOf(foreign), wordOf(x.m), wordOf(ref(x.e[0] + 1)), wordOf(ref(spineOf(x.h, x.m)))} {
		with(x.h, x.head, w, func() {
			for _, k := range append(x.k, x.none) {
				x.asks(t, k, corrupt(x.head))
			}
			x.finds(t, x.other)
		})
	}
	with(x.h, x.head, nilWord, func() {
		if v, ok, fault := x.h.TableGet(x.m, x.k[0]); v != nobody || ok || fault.Err != 0 {
			t.Errorf("P1203: TableGet in a row without entries: %v, %v, %v", v, ok, fault)
		}
	})
}

// A wrong header, key or chain in the midst of a row: what stands ahead of it is found.
func TestP1203WrongEntries(t *testing.T) {
	x := rowed(t)
	mid := x.e[1]
	for _, w := range []int{0, 8, nilWord, 1, 5, least, greatest, word(x.h, x.e[0])} {
		with(x.h, mid, w, func() {
			x.finds(t, x.k[0])
			x.asks(t, x.k[1], corrupt(mid))
			x.asks(t, x.k[2], corrupt(mid))
			x.asks(t, x.none, corrupt(mid))
			x.finds(t, x.other)
		})
	}
	for _, w := range []int{9, 4, 5, 6, 7, 50, least + 1, wordOf(ref(mid)), wordOf(ref(x.head)), wordOf(ref(400))} {
		with(x.h, mid+1, w, func() {
			x.finds(t, x.k[0])
			x.asks(t, x.k[1], corrupt(mid+1))
			x.asks(t, x.k[2], corrupt(mid+1))
			x.asks(t, x.none, corrupt(mid+1))
			with(x.h, mid, 0, func() { x.asks(t, x.none, corrupt(mid)) })
			with(x.h, mid+3, 0, func() { x.asks(t, x.none, corrupt(mid+1)) })
		})
	}
	for _, w := range []int{0, 8, voidWord, 1, 4, 5, 6, 7, wordOf(ref(mid)), wordOf(ref(x.e[0])), wordOf(ref(x.e[2] + 1)), wordOf(x.m)} {
		with(x.h, mid+3, w, func() {
			x.finds(t, x.k[0])
			x.finds(t, x.k[1])
			x.asks(t, x.k[2], corrupt(mid+3))
			x.asks(t, x.none, corrupt(mid+3))
		})
	}
}

// Of an entry that is not the one that is sought the value is not looked at; nor is anything behind the one that is.
func TestP1203WhatIsNotLookedAt(t *testing.T) {
	x := rowed(t)
	for i, e := range x.e {
		with(x.h, e+2, 7, func() {
			for j, k := range x.k {
				if i != j {
					x.finds(t, k)
				}
			}
			if v, ok, fault := x.h.TableGet(x.m, x.k[i]); v != nobody || ok || fault != corrupt(e+2) {
				t.Errorf("P1204: TableGet of a wrong value: %v, %v, %v", v, ok, fault)
			}
			if list, fault := x.h.PutNeeds(x.m, x.k[i]); len(list) != 0 || fault.Err != 0 {
				t.Errorf("P1205: PutNeeds with a wrong value: %v, %v", list, fault)
			}
		})
	}
	for i := range 4 {
		with(x.h, x.e[2]+i, 7, func() {
			x.finds(t, x.k[0])
			x.finds(t, x.k[1])
		})
	}
	with(x.h, spineOf(x.h, x.m)+1+3, 7, func() {
		x.finds(t, x.k[2])
		x.finds(t, x.other)
	})
}

// Keys are one key if they are one value: of the same kind, with the same number.
func TestP1203KeysAreValues(t *testing.T) {
	h := heap(t, 8)
	m, k := empty(t, h), box(t, h)
	list := []api.Value{fixnum(1), char(1), {Kind: 3, N: 1}, k, fixnum(k.N), fixnum(-1), fixnum(0), char(0), null}
	for i, x := range list {
		put(t, h, m, x, fixnum(i))
	}
	for i, x := range list {
		if v, ok, fault := h.TableGet(m, x); v != fixnum(i) || !ok || fault.Err != 0 {
			t.Errorf("P1203: TableGet(%v) = %v, %v, %v, want %d", x, v, ok, fault, i)
		}
	}
	same := box(t, h)
	if v, ok, _ := h.TableGet(m, same); ok {
		t.Errorf("P1203: another box is the same key: %v", v)
	}
}

// The head of a reference is told by its object's serial, not by its place.
func TestP1203HeadsBySerials(t *testing.T) {
	h := heap(t, 20)
	m := empty(t, h)
	for range 30 {
		k := box(t, h)
		h.SetRaw(m, 1, 0)
		put(t, h, m, k, null)
		b, _ := h.Block(k.N)
		if slot := slotOf(k, b.Serial, 4); !slices.Contains(rowOf(h, spineOf(h, m), slot), entryOf(t, h, m, k)) {
			t.Errorf("P1203: the key of the serial %d is not in the row %d", b.Serial, slot)
		}
	}
}

func TestP1204Count(t *testing.T) {
	h := heap(t, 4)
	m := empty(t, h)
	for _, n := range append(wild(), 0, 1, 7, 8) {
		h.SetRaw(m, 1, n)
		unchanged(t, "P1204: TableCount", h, func() {
			if got, fault := h.TableCount(m); got != n || fault.Err != 0 {
				t.Errorf("P1204: TableCount = %d, %v, want %d", got, fault, n)
			}
		})
	}
	put(t, h, m, null, null)
	with(h, m.N+2, 7, func() {
		if n, fault := h.TableCount(m); n != 8+1 || fault.Err != 0 {
			t.Errorf("P1204: TableCount with a wrong spine: %d, %v", n, fault)
		}
	})
}

func TestP1204GetChangesNothing(t *testing.T) {
	x := rowed(t)
	unchanged(t, "P1204: TableGet", x.h, func() {
		for _, k := range append(x.k, x.none, x.other, null) {
			x.h.TableGet(x.m, k)
		}
	})
}

func TestP1205Needs(t *testing.T) {
	h := heap(t, 400)
	m := empty(t, h)
	heads := 0
	for n := range 1300 {
		var want []int
		switch n {
		case 0, 8, 16, 32, 64, 128, 256, 512:
			heads = max(4, 2*heads)
			want = []int{1 + heads, 4}
		default:
			want = []int{4}
		}
		unchanged(t, "P1205: PutNeeds", h, func() {
			if list, fault := h.PutNeeds(m, fixnum(n)); !slices.Equal(list, want) || fault.Err != 0 {
				t.Errorf("P1205: PutNeeds behind %d keys: %v, %v, want %v", n, list, fault, want)
			}
		})
		put(t, h, m, fixnum(n), null)
		if list, fault := h.PutNeeds(m, fixnum(n)); len(list) != 0 || fault.Err != 0 {
			t.Errorf("P1205: PutNeeds of the key %d that is there: %v, %v", n, list, fault)
		}
		if b, _ := h.Block(spineOf(h, m)); b.Kind != 12 || b.Size != 1+heads || b.Tag != 1 {
			t.Fatalf("P1206: the spine behind %d keys: %v, want %d heads", n+1, b, heads)
		}
	}
}

// Whether a table grows says its count, whatever stands there.
func TestP1205NeedsGoByTheCount(t *testing.T) {
	for _, heads := range []int{0, 4, 8, 256, 512} {
		h := heap(t, 20)
		m := empty(t, h)
		if heads > 0 {
			h.Set(m, 2, thing(t, h, 12, heads, 1))
		}
		for _, n := range append(wild(), 0, 1, 2*heads-1, 2*heads, 2*heads+1, heads) {
			h.SetRaw(m, 1, n)
			want := []int{4}
			if heads == 0 {
				want = []int{5, 4}
			} else if heads < 512 && n >= 2*heads {
				want = []int{1 + 2*heads, 4}
			}
			if list, fault := h.PutNeeds(m, null); !slices.Equal(list, want) || fault.Err != 0 {
				t.Errorf("P1205: PutNeeds of %d heads, the count %d: %v, %v, want %v", heads, n, list, fault, want)
			}
		}
	}
}

// Nothing but the row of the key is looked at, and room is not asked for.
func TestP1205NeedsOnly(t *testing.T) {
	x := rowed(t)
	x.h.SetRaw(x.m, 1, 8)
	with(x.h, spineOf(x.h, x.m)+1+1, 7, func() {
		if list, fault := x.h.PutNeeds(x.m, x.none); !slices.Equal(list, []int{9, 4}) || fault.Err != 0 {
			t.Errorf("P1205: PutNeeds with a wrong word in another row: %v, %v", list, fault)
		}
	})
	for x.h.Fits(4) {
		thing(t, x.h, 13, 0, 77)
	}
	if list, fault := x.h.PutNeeds(x.m, x.none); !slices.Equal(list, []int{9, 4}) || fault.Err != 0 {
		t.Errorf("P1205: PutNeeds without room: %v, %v", list, fault)
	}
	list, _ := x.h.PutNeeds(x.m, x.none)
	list[0], list[1] = 77, 78
	if again, _ := x.h.PutNeeds(x.m, x.none); !slices.Equal(again, []int{9, 4}) {
		t.Errorf("P1211: what PutNeeds has answered is kept: %v", again)
	}
}

func TestP1201ToP1209ChapterExamples(t *testing.T) {
	h := heap(t, 4)
	m, a := empty(t, h), box(t, h)
	needs := func(k api.Value, want ...int) {
		t.Helper()
		if list, fault := h.PutNeeds(m, k); !slices.Equal(list, want) || fault.Err != 0 {
			t.Errorf("PutNeeds(%v) = %v, %v, want %v", k, list, fault, want)
		}
	}
	count := func(want int) {
		t.Helper()
		if n, fault := h.TableCount(m); n != want || fault.Err != 0 {
			t.Errorf("TableCount = %d, %v, want %d", n, fault, want)
		}
	}
	get := func(m, k, want api.Value, found bool, wantFault api.Fault) {
		t.Helper()
		if v, ok, fault := h.TableGet(m, k); v != want || ok != found || fault != wantFault {
			t.Errorf("TableGet(%v, %v) = %v, %v, %v", m, k, v, ok, fault)
		}
	}
	needs(a, 5, 4)
	get(m, a, nobody, false, api.Fault{})
	count(0)
	put(t, h, m, a, fixnum(1))
	needs(a)
	needs(null, 4)
	get(m, a, fixnum(1), true, api.Fault{})
	count(1)
	if n, fault := h.TableCount(a); n != 0 || fault != no(31) {
		t.Errorf("TableCount(a) = %d, %v", n, fault)
	}
	for i := range 7 {
		put(t, h, m, fixnum(i), null)
	}
	count(8)
	needs(fixnum(7), 9, 4)
	put(t, h, m, fixnum(7), null)
	count(9)
	for _, want := range []bool{true, false} {
		if ok, fault := h.TableDelete(m, a); ok != want || fault.Err != 0 {
			t.Errorf("TableDelete(t, a) = %v, %v, want %v", ok, fault, want)
		}
	}
	count(8)
	get(m, ref(1), nobody, false, no(33))
	get(a, api.Value{Kind: 3, N: 9}, nobody, false, no(31))
	n, fault := h.Node(m)
	if fault.Err != 0 || n.Id != 1 || n.Kind != 10 || len(n.Raw)+len(n.Fields) != 0 || len(n.Entries) != 8 {
		t.Errorf("Node(t) = %v, %v", n, fault)
	}
	for i, e := range n.Entries {
		if e != (api.Entry{Key: fixnum(i), Value: null}) {
			t.Errorf("Node(t): the entry %d is %v", i, e)
		}
	}
	h.Poke(m.N+2, 8)
	get(m, null, nobody, false, corrupt(m.N+2))
	count(8)
	if n, fault := h.Node(m); !sameNode(n, api.Node{}) || fault != corrupt(m.N+2) {
		t.Errorf("Node(t) with a wrong spine: %v, %v", n, fault)
	}
}
