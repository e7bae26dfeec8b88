package table

import (
	"slices"
	"testing"

	"hearth/api"
	"hearth/graph"
)

// node is a node that is to be told.
func node(t *testing.T, h *Heap, v api.Value) api.Node {
	t.Helper()
	n, fault := h.Node(v)
	if fault != (api.Fault{}) {
		t.Fatalf("P1209: Node(%v) = %v, %v", v, n, fault)
	}
	return n
}

// zoo is a heap with an object of each kind, at the kind's number; 12 and 13 are the table's spine and entry.
func zoo(t *testing.T) (*Heap, []api.Value) {
	t.Helper()
	h := heap(t, 40)
	box(t, h)
	out := make([]api.Value, 14)
	for _, kind := range []int{11, 10, 9, 8, 7, 6, 5, 3, 2, 1} {
		out[kind] = thing(t, h, kind, map[int]int{3: 4, 6: 2, 11: 3}[kind], map[int]int{6: 5, 11: 5}[kind])
	}
	out[4], _ = h.MakeText([]byte("hearth!?\x00\xff"))
	for kind, v := range out {
		b, ok := h.Block(v.N)
		for i := 1; ok && i < b.Size; i++ {
			h.Set(v, i, fixnum(100*kind+i)) // what takes no fixnum stays as it is
		}
	}
	h.Set(out[1], 1, out[2])
	h.Set(out[3], 4, out[4])
	h.Set(out[6], 2, out[6])
	h.Set(out[7], 1, out[11])
	h.Set(out[8], 1, out[3])
	h.Set(out[9], 1, out[10])
	h.Set(out[11], 1, out[11])
	h.Set(out[11], 2, out[6])
	h.Set(out[11], 6, out[1])
	h.SetRaw(out[11], 3, -9)
	h.SetRaw(out[11], 4, greatest)
	h.SetRaw(out[5], 1, least)
	put(t, h, out[10], out[5], out[9])
	out[12], out[13] = ref(spineOf(h, out[10])), ref(entryOf(t, h, out[10], out[5]))
	return h, out
}

// wanted are the nodes of the zoo, at the kinds' numbers; name tells a reference to an object of a kind.
func wanted(name func(kind int) api.Value) []api.Node {
	return []api.Node{
		1:  {Id: 11, Kind: 1, Fields: []api.Value{name(2), fixnum(102)}},
		2:  {Id: 10, Kind: 2, Fields: []api.Value{fixnum(201)}},
		3:  {Id: 9, Kind: 3, Fields: []api.Value{fixnum(301), fixnum(302), fixnum(303), name(4)}},
		4:  {Id: 12, Kind: 4, Raw: []int{'h', 'e', 'a', 'r', 't', 'h', '!', '?', 0, 255}},
		5:  {Id: 8, Kind: 5, Raw: []int{least}},
		6:  {Id: 7, Kind: 6, Raw: []int{5}, Fields: []api.Value{fixnum(601), name(6)}},
		7:  {Id: 6, Kind: 7, Fields: []api.Value{name(11)}},
		8:  {Id: 5, Kind: 8, Fields: []api.Value{name(3), fixnum(802)}},
		9:  {Id: 4, Kind: 9, Fields: []api.Value{name(10), fixnum(902)}},
		10: {Id: 3, Kind: 10, Entries: []api.Entry{{Key: name(5), Value: name(9)}}},
		11: {Id: 2, Kind: 11, Raw: []int{5, -9, greatest}, Fields: []api.Value{name(11), name(6), fixnum(1105), name(1), fixnum(1107)}},
	}
}

func TestP1209EachKind(t *testing.T) {
	h, all := zoo(t)
	unchanged(t, "P1209: Node", h, func() {
		for kind, want := range wanted(func(kind int) api.Value { return all[kind] }) {
			if kind > 0 {
				if n := node(t, h, all[kind]); !sameNode(n, want) {
					t.Errorf("P1209: Node of the kind %d is %v, want %v", kind, n, want)
				}
			}
		}
	})
}

func TestP1209New(t *testing.T) {
	h := heap(t, 40)
	for _, c := range []struct {
		kind, n, tag int
		want         api.Node
	}{
		{1, 0, 0, api.Node{Kind: 1, Fields: []api.Value{void, void}}},
		{3, 0, 0, api.Node{Kind: 3}},
		{6, 0, -4, api.Node{Kind: 6, Raw: []int{-4}}},
		{7, 0, 0, api.Node{Kind: 7, Fields: []api.Value{null}}},
		{10, 0, 0, api.Node{Kind: 10}},
		{11, 0, 63, api.Node{Kind: 11, Raw: []int{63, 0, 0}, Fields: []api.Value{null, null}}},
		{11, 2, 63, api.Node{Kind: 11, Raw: []int{63, 0, 0}, Fields: []api.Value{null, null, void, void}}},
	} {
		v := thing(t, h, c.kind, c.n, c.tag)
		c.want.Id = h.Dump().Serial
		if n := node(t, h, v); !sameNode(n, c.want) {
			t.Errorf("P1209: Node of a new object: %v, want %v", n, c.want)
		}
	}
	text, _ := h.MakeText(nil)
	if n := node(t, h, text); n.Kind != 4 || len(n.Raw) != 0 {
		t.Errorf("P1209: Node of a text without bytes: %v", n)
	}
	h.SetRaw(text, 1, 9999)
	if n := node(t, h, text); len(n.Raw) != 0 {
		t.Errorf("P1209: Node of a text whose length is wrong: %v", n)
	}
	text, _ = h.MakeText(slices.Repeat([]byte{7}, 9))
	h.SetRaw(text, 1, 9999)
	if n := node(t, h, text); len(n.Raw) != 16 || n.Raw[8] != 7 || n.Raw[9] != 0 {
		t.Errorf("P1209: Node of a text whose length is too great: %v", n)
	}
	h.SetRaw(text, 1, -1)
	if n := node(t, h, text); len(n.Raw) != 0 {
		t.Errorf("P1209: Node of a text whose length is below 0: %v", n)
	}
}

func TestP1209Refuses(t *testing.T) {
	h, all := zoo(t)
	ask := func(v api.Value, want api.Fault) {
		t.Helper()
		if n, fault := h.Node(v); !sameNode(n, api.Node{}) || fault != want {
			t.Errorf("P1209: Node(%v) = %v, %v, want %v", v, n, fault, want)
		}
	}
	for _, v := range append(strangers(), null, fixnum(0), fixnum(all[1].N), char(all[1].N), ref(all[1].N+1), ref(2559), ref(2560)) {
		ask(v, no(30))
	}
	ask(all[12], no(31))
	ask(all[13], no(31))
	for kind := 1; kind <= 13; kind++ {
		with(h, all[kind].N, 7, func() { ask(all[kind], corrupt(all[kind].N)) })
	}
}

// Each wrong word that is no raw one is told; of several the least.
func TestP1209WrongWords(t *testing.T) {
	h, all := zoo(t)
	for kind, fields := range [][]int{1: {1, 2}, 2: {1}, 3: {1, 2, 3, 4}, 6: {1, 2}, 7: {1}, 8: {1, 2}, 9: {1, 2}, 11: {1, 2, 5, 6, 7}} {
		at := all[kind].N
		told := func() api.Fault {
			_, fault := h.Node(all[kind])
			return fault
		}
		for _, i := range fields {
			with(h, at+i, 7, func() {
				if n, fault := h.Node(all[kind]); !sameNode(n, api.Node{}) || fault != corrupt(at+i) {
					t.Errorf("P1209: Node of the kind %d with a wrong word %d: %v, %v", kind, i, n, fault)
				}
			})
		}
		for _, i := range slices.Backward(fields) {
			if h.Poke(at+i, 7); told() != corrupt(at+i) {
				t.Errorf("P1209: Node of the kind %d with wrong words from %d on: %v", kind, i, told())
			}
		}
	}
	for kind, raws := range [][]int{4: {1, 2, 3}, 5: {1}, 10: {1}} {
		for _, i := range raws {
			if h.Poke(all[kind].N+i, 7); node(t, h, all[kind]).Kind != kind {
				t.Errorf("P1209: Node of the kind %d with another raw word %d", kind, i)
			}
		}
	}
}

// Of a table: the spine's word and header, all heads, and of each entry that rows come to the header, key, value and chain.
func TestP1209WrongTables(t *testing.T) {
	x := full(t)
	spine := spineOf(x.h, x.m)
	wrong := []int{x.m.N + 2, spine, spine + 1, spine + 2, spine + 3, spine + 4}
	var entries []int
	for slot := range 4 {
		for _, e := range rowOf(x.h, spine, slot) {
			wrong = append(wrong, e, e+1, e+2, e+3)
			entries = append(entries, e)
		}
	}
	for _, at := range wrong {
		with(x.h, at, 7, func() {
			if n, fault := x.h.Node(x.m); fault != corrupt(at) || !sameNode(n, api.Node{}) {
				t.Errorf("P1209: Node with the wrong word %d: %v, %v", at, n, fault)
			}
		})
	}
	// Wrong headers keep nothing from being looked at, neither the spine's nor the entries'.
	x.h.Poke(spine, 7)
	for _, e := range entries {
		x.h.Poke(e, 7)
	}
	if _, fault := x.h.Node(x.m); fault != corrupt(slices.Min(append(entries, spine))) {
		t.Errorf("P1209: Node with all headers wrong: %v", fault)
	}
	// The table's count is raw: it tells nothing.
	y := rowed(t)
	want := node(t, y.h, y.m)
	y.h.SetRaw(y.m, 1, -5)
	if n := node(t, y.h, y.m); !sameNode(n, want) {
		t.Errorf("P1209: Node with another count: %v", n)
	}
}

// Of two wrong words the least is told, if right words lead to it: a wrong word leads nowhere.
func TestP1209TheLeast(t *testing.T) {
	x := rowed(t)
	spine, o := spineOf(x.h, x.m), entryOf(t, x.h, x.m, x.other)
	ask := func(a, b, want int) {
		t.Helper()
		with(x.h, a, 7, func() {
			with(x.h, b, 7, func() {
				if n, fault := x.h.Node(x.m); !sameNode(n, api.Node{}) || fault != corrupt(want) {
					t.Errorf("P1209: Node with the wrong words %d, %d: %v, %v, want %d", a, b, n, fault, want)
				}
			})
		})
	}
	if o > x.e[0] || x.e[2] > spine {
		t.Fatalf("the entries stand at %d, %v, the spine at %d", o, x.e, spine)
	}
	ask(spine, x.e[0]+1, x.e[0]+1)
	ask(spine+1, x.e[2], x.e[2])
	ask(x.e[2]+3, x.e[0]+2, x.e[0]+2)
	ask(x.e[1], x.e[1]+3, x.e[1])
	ask(x.head, x.e[0], x.head)
	ask(spine+2, o, spine+2)
	ask(x.m.N+2, spine, x.m.N+2)
	all := []int{x.m.N + 2, spine, spine + 1, spine + 2, spine + 3, spine + 4}
	for _, e := range append(x.e, o) {
		all = append(all, e, e+1, e+2, e+3)
	}
	plain := twin{x.h.Heap}
	for _, a := range all {
		for _, b := range all {
			var want api.Fault
			with(x.h, a, 7, func() { with(x.h, b, 7, func() { _, want = plain.node(x.m) }) })
			ask(a, b, want.At)
		}
	}
}

// Entries rise by their keys: by kind, then by number, of references by serials, whatever their places are.
func TestP1209EntriesRise(t *testing.T) {
	h := heap(t, 8)
	low := box(t, h)
	a, b := box(t, h), box(t, h)
	m := empty(t, h)
	h.Keep([]int{a.N, b.N, m.N})
	c := box(t, h) // at the place of the first box, with the greatest serial
	if c != low || c.N > a.N {
		t.Fatalf("P806: the places are %v, %v, %v", low, a, c)
	}
	keys := []api.Value{fixnum(-4), fixnum(0), fixnum(9), a, b, c, null, {Kind: 3, N: 5}, char(0), char(66)}
	for _, i := range []int{9, 4, 6, 0, 8, 3, 5, 1, 7, 2} {
		put(t, h, m, keys[i], fixnum(i))
	}
	n := node(t, h, m)
	for i, e := range n.Entries {
		if e != (api.Entry{Key: keys[i], Value: fixnum(i)}) {
			t.Errorf("P1209: the entry %d is %v, want the key %v", i, e, keys[i])
		}
	}
	if len(n.Entries) != len(keys) {
		t.Errorf("P1209: there are %d entries", len(n.Entries))
	}
}

// Two entries of one key, which none but another call can make: they are told by their places.
func TestP1209EntriesOfOneKey(t *testing.T) {
	x := rowed(t)
	for i, e := range x.e {
		x.h.Set(ref(e), 1, x.other)
		x.h.Set(ref(e), 2, fixnum(-i))
	}
	at := entryOf(t, x.h, x.m, x.other)
	x.h.Set(ref(at), 2, fixnum(50))
	want := []api.Entry{{Key: x.other, Value: fixnum(50)}, {Key: x.other, Value: fixnum(0)}, {Key: x.other, Value: fixnum(-1)}, {Key: x.other, Value: fixnum(-2)}}
	if at > x.e[0] {
		t.Fatalf("the first entry stands at %d", at)
	}
	if n := node(t, x.h, x.m); !slices.Equal(n.Entries, want) {
		t.Errorf("P1209: entries of one key: %v, want %v", n.Entries, want)
	}
	spine := spineOf(x.h, x.m)
	x.h.Set(ref(spine), 4, ref(x.e[1]))
	x.h.Set(ref(spine), 1, ref(at))
	if n := node(t, x.h, x.m); !slices.Equal(n.Entries, want) {
		t.Errorf("P1209: entries that are met twice: %v, want %v", n.Entries, want)
	}
}

func TestP1209NewMemory(t *testing.T) {
	h, all := zoo(t)
	for kind := 1; kind <= 11; kind++ {
		want := node(t, h, all[kind])
		n := node(t, h, all[kind])
		for i := range n.Raw {
			n.Raw[i] = 77
		}
		for i := range n.Fields {
			n.Fields[i] = fixnum(77)
		}
		for i := range n.Entries {
			n.Entries[i] = api.Entry{Key: fixnum(77)}
		}
		if again := node(t, h, all[kind]); !sameNode(again, want) {
			t.Errorf("P1211: what Node has answered is kept: %v, want %v", again, want)
		}
	}
}

func TestP1210Graph(t *testing.T) {
	h, all := zoo(t)
	first, _ := h.Find(1)
	name := func(kind int) api.Value {
		b, _ := h.Block(all[kind].N)
		return ref(b.Serial)
	}
	want := api.Graph{Nodes: []api.Node{{Id: 1, Kind: 2, Fields: []api.Value{void}}}}
	want.Nodes = append(want.Nodes, wanted(name)[1:]...)
	slices.SortFunc(want.Nodes, func(a, b api.Node) int { return a.Id - b.Id })
	want.Roots = []api.Value{ref(1), name(11), fixnum(all[1].N), null, name(11), name(1), char(0)}
	roots := []api.Value{ref(first), all[11], fixnum(all[1].N), null, all[11], all[1], char(0)}
	unchanged(t, "P1210: Graph", h, func() {
		g, fault := h.Graph(roots)
		if fault.Err != 0 || !sameGraph(g, want) {
			t.Errorf("P1210: Graph is %v, %v, want %v", g, fault, want)
		}
		if errno := graph.Check(g); errno != 0 {
			t.Errorf("P1210: Check refuses the graph: %d", errno)
		}
	})
}

// Nodes rise by serials, not by places.
func TestP1210NodesRise(t *testing.T) {
	h := heap(t, 4)
	box(t, h)
	a := box(t, h)
	h.Keep([]int{a.N})
	b := box(t, h)
	h.Set(b, 1, a)
	h.Set(a, 1, b)
	want := api.Graph{Nodes: []api.Node{{Id: 2, Kind: 2, Fields: []api.Value{ref(3)}}, {Id: 3, Kind: 2, Fields: []api.Value{ref(2)}}}, Roots: []api.Value{ref(3)}}
	if g, fault := h.Graph([]api.Value{b}); b.N > a.N || fault.Err != 0 || !sameGraph(g, want) {
		t.Errorf("P1210: Graph is %v, %v, want %v", g, fault, want)
	}
}

func TestP1210Empty(t *testing.T) {
	h := heap(t, 1)
	if g, fault := h.Graph(nil); len(g.Nodes)+len(g.Roots) != 0 || fault.Err != 0 {
		t.Errorf("P1210: Graph of an empty heap: %v, %v", g, fault)
	}
	thing(t, h, 13, 0, 0)
	if g, fault := h.Graph([]api.Value{}); len(g.Nodes)+len(g.Roots) != 0 || fault.Err != 0 {
		t.Errorf("P1210: Graph of a heap without serials: %v, %v", g, fault)
	}
}

func TestP1210Roots(t *testing.T) {
	h, all := zoo(t)
	for _, v := range append(strangers(), all[12], all[13], ref(all[1].N+1), ref(2559), ref(2560)) {
		for _, roots := range [][]api.Value{{v}, {all[1], v}, {v, null}} {
			if g, fault := h.Graph(roots); !sameGraph(g, api.Graph{}) || fault != no(33) {
				t.Errorf("P1210: Graph(%v) = %v, %v", roots, g, fault)
			}
			with(h, all[1].N, 7, func() {
				if g, fault := h.Graph(roots); !sameGraph(g, api.Graph{}) || fault != no(33) {
					t.Errorf("P1210: Graph(%v) with a wrong header: %v, %v", roots, g, fault)
				}
			})
		}
	}
}

// Each wrong word that Node tells of any of the objects, and of several the least.
func TestP1210WrongWords(t *testing.T) {
	h, all := zoo(t)
	var wrong []int
	for kind := 1; kind <= 13; kind++ {
		b, _ := h.Block(all[kind].N)
		for i := range b.Size {
			if raw := kind == 4 || kind == 5 || kind == 10 && i == 1 || kind == 11 && (i == 3 || i == 4); i == 0 || !raw {
				wrong = append(wrong, b.At+i)
			}
		}
	}
	for _, at := range wrong {
		with(h, at, 7, func() {
			if g, fault := h.Graph(all[1:12]); !sameGraph(g, api.Graph{}) || fault != corrupt(at) {
				t.Errorf("P1210: Graph with the wrong word %d: %v, %v", at, g, fault)
			}
		})
	}
	slices.Sort(wrong)
	for _, at := range slices.Backward(wrong) {
		if at == all[12].N || at > all[12].N && at < all[12].N+5 || at == all[10].N+2 || at == all[10].N {
			continue // what leads to the entry stays right
		}
		h.Poke(at, 7)
		if _, fault := h.Graph(nil); fault != corrupt(at) {
			t.Errorf("P1210: Graph with wrong words from %d on: %v", at, fault)
		}
	}
}

// Entries and spines that belong to no table, or to which no row comes, are not looked at.
func TestP1210WhatIsNotLookedAt(t *testing.T) {
	x := full(t)
	old := spineOf(x.h, x.m)
	put(t, x.h, x.m, x.none, null)
	x.h.TableDelete(x.m, x.k[1])
	stray := thing(t, x.h, 13, 0, 1)
	want, _ := x.h.Graph(nil)
	for _, at := range []int{old, old + 1, x.e[1], x.e[1] + 1, x.e[1] + 2, x.e[1] + 3, stray.N, stray.N + 1, x.m.N + 1} {
		x.h.Poke(at, 7)
	}
	if g, fault := x.h.Graph(nil); fault.Err != 0 || !sameGraph(g, want) {
		t.Errorf("P1210: Graph with wrong words that nothing leads to: %v, %v", g, fault)
	}
}

// Of an object with a wrong header Node tells its place, whatever else of it is wrong.
func TestP1210AWrongTableHeader(t *testing.T) {
	h := heap(t, 4)
	box(t, h)
	entry := thing(t, h, 13, 0, 2)
	m := empty(t, h)
	put(t, h, m, null, null)
	h.Set(ref(spineOf(h, m)), 1, entry)
	if entry.N > m.N {
		t.Fatalf("the entry stands at %d, the table at %d", entry.N, m.N)
	}
	h.Poke(entry.N+1, 7)
	if _, fault := h.Graph(nil); fault != corrupt(entry.N+1) {
		t.Errorf("P1210: Graph with a wrong key: %v", fault)
	}
	h.Poke(m.N, 7)
	_, one := h.Node(m)
	if _, fault := h.Graph(nil); fault != corrupt(m.N) || one != fault {
		t.Errorf("P1210: Graph with a wrong header besides: %v, Node: %v", fault, one)
	}
}

func TestP1210ListsAreApart(t *testing.T) {
	h, all := zoo(t)
	roots := append(make([]api.Value, 0, 8), all[1], all[11])
	spare := slices.Clone(roots[:8])
	g, _ := h.Graph(roots)
	want, _ := h.Graph(roots)
	if !slices.Equal(roots[:8], spare) {
		t.Errorf("P1211: Graph has changed its roots: %v", roots[:8])
	}
	for i := range g.Roots {
		g.Roots[i] = fixnum(77)
	}
	for k := range g.Nodes {
		n := &g.Nodes[k]
		n.Raw, n.Fields, n.Entries = append(n.Raw, 77), append(n.Fields, fixnum(77)), append(n.Entries, api.Entry{})
		for i := range n.Raw {
			n.Raw[i] = 77
		}
		for i := range n.Fields {
			n.Fields[i] = fixnum(77)
		}
		for i := range n.Entries {
			n.Entries[i] = api.Entry{}
		}
	}
	if again, _ := h.Graph(roots); !sameGraph(again, want) || !slices.Equal(roots[:8], spare) {
		t.Errorf("P1211: what Graph has answered is kept: %v", again)
	}
	g, _ = h.Graph(roots)
	g.Nodes[3].Fields = append(g.Nodes[3].Fields, fixnum(77))
	g.Nodes[10].Fields = append(g.Nodes[10].Fields, fixnum(78))
	if len(g.Nodes[3].Fields) != 3 || g.Nodes[3].Fields[2] != fixnum(77) {
		t.Errorf("P1211: lists of one answer share memory: %v", g.Nodes[3].Fields)
	}
}

// A list of many pairs, each of which refers to the next one, and the greatest heap.
func TestP1210DeepHeaps(t *testing.T) {
	h := heap(t, 4096)
	m := empty(t, h)
	last := null
	n := 0
	for h.Fits(3, 3, 3) {
		v := thing(t, h, 1, 0, 0)
		h.Set(v, 2, last)
		last = v
		n++
	}
	g, fault := h.Graph([]api.Value{last, m})
	if fault.Err != 0 || len(g.Nodes) != n+1 || !slices.Equal(g.Roots, []api.Value{ref(n + 1), ref(1)}) {
		t.Fatalf("P1210: Graph of %d pairs: %d nodes, %v", n, len(g.Nodes), fault)
	}
	for i := 2; i <= n; i++ {
		if !slices.Equal(g.Nodes[i].Fields, []api.Value{void, ref(i)}) {
			t.Fatalf("P1210: the pair %d is %v", i+1, g.Nodes[i])
		}
	}
}
