package graph

import (
	"slices"
	"sync"
	"testing"

	"hearth/api"
)

func TestP1006ToP1013LongPasts(t *testing.T) {
	for seed := range int64(12) {
		x := begun(seed)
		for turn := range 4000 {
			if !x.turn() {
				t.Fatalf("P1006 to P1013: seed %d, turn %d: the heap answers otherwise", seed, turn)
			}
			if turn%100 == 0 && !x.alike() {
				t.Fatalf("P1006 to P1013: seed %d, turn %d: the heap is otherwise", seed, turn)
			}
		}
		if g := whole(t, x.h); Check(g) != api.OK || !x.alike() {
			t.Fatalf("P1006 to P1013: seed %d: the heap is otherwise in the end", seed)
		}
	}
}

func TestP1014HeapsInTurn(t *testing.T) {
	var all []*past
	for n := range 8 {
		all = append(all, begun(int64(n)))
	}
	for range 100 {
		for n, x := range all {
			if !x.run(5) {
				t.Fatalf("P1014: the heap %d answers otherwise, in turn with others", n)
			}
		}
	}
}

func TestP1014HeapsSideBySide(t *testing.T) {
	alike := make([]bool, 8)
	var all sync.WaitGroup
	for w := range alike {
		x := begun(int64(w))
		all.Go(func() { alike[w] = x.run(1500) })
	}
	all.Wait()
	if slices.Contains(alike, false) {
		t.Errorf("P1014: heaps side by side: %v", alike)
	}
}

// roomy is a list with spare room behind it, that is filled.
func roomy[T any](list []T, filling T) []T {
	out := append(slices.Clip(slices.Clone(list)), filling, filling, filling)
	return out[:len(list)]
}

// roomyGraph is a graph whose lists have spare room.
func roomyGraph(g api.Graph) api.Graph {
	odd := api.Value{Kind: 77, N: 78}
	var out []api.Node
	for _, n := range g.Nodes {
		n.Raw, n.Fields, n.Entries = roomy(n.Raw, -77), roomy(n.Fields, odd), roomy(n.Entries, api.Entry{Key: odd, Value: odd})
		out = append(out, n)
	}
	return api.Graph{Nodes: roomy(out, cell(-5, 5, odd)), Roots: roomy(g.Roots, odd)}
}

// stretched is a graph with the spare room of its lists.
func stretched(g api.Graph) api.Graph {
	g.Nodes = slices.Clone(g.Nodes[:len(g.Nodes)+3])
	for i := range len(g.Nodes) - 3 {
		n := &g.Nodes[i]
		n.Raw, n.Fields, n.Entries = n.Raw[:len(n.Raw)+3], n.Fields[:len(n.Fields)+3], n.Entries[:len(n.Entries)+3]
	}
	g.Roots = g.Roots[:len(g.Roots)+3]
	return g
}

// weakGraph is a graph of which a collection turns much.
func weakGraph() api.Graph {
	return rooted(of(
		cell(1, 8, ref(9), null), cell(2, 9, ref(9), ref(3)), cell(3, 2, null), table(4, fixnum(1), ref(5), ref(9), ref(3), ref(5), ref(6)), cell(5, 2, null),
		cell(6, 8, ref(5), ref(7)), cell(7, 3, ref(1), ref(2), ref(8)), api.Node{Id: 8, Kind: 4, Raw: []int{1, 2}}, cell(9, 2, null),
	), ref(4), ref(1), ref(2))
}

func TestP1014GraphsAreLeftAlone(t *testing.T) {
	for _, g := range []api.Graph{rooted(village(), ref(9), ref(10)), weakGraph(), of(cell(3, 2, null), cell(2, 2, ref(7)))} {
		own, want := roomyGraph(g), stretched(roomyGraph(g))
		Check(own)
		Live(own)
		Collect(own)
		Equal(own, own)
		if !same(stretched(own), want) {
			t.Errorf("P1014: a graph that was handed in has changed: %v", stretched(own))
		}
	}
}

// scribble turns all that an answer has, its spare room too.
func scribble(g api.Graph) {
	for _, n := range g.Nodes[:cap(g.Nodes)] {
		scribbleNode(n)
	}
	clear(g.Nodes[:cap(g.Nodes)])
	clear(g.Roots[:cap(g.Roots)])
}

func scribbleNode(n api.Node) {
	for i := range n.Raw[:cap(n.Raw)] {
		n.Raw[:cap(n.Raw)][i] = -5
	}
	clear(n.Fields[:cap(n.Fields)])
	clear(n.Entries[:cap(n.Entries)])
}

func TestP1014CollectAnswersNewMemory(t *testing.T) {
	g := rooted(village(), ref(10), ref(11), ref(8), ref(9))
	want := rooted(village(), ref(10), ref(11), ref(8), ref(9))
	first, _, _ := Collect(g)
	for i := range first.Nodes {
		again, _, _ := Collect(g)
		scribbleNode(again.Nodes[i])
		for k := range again.Nodes {
			if k != i && !alike(again.Nodes[k], first.Nodes[k]) {
				t.Errorf("P1014: the nodes %d and %d share memory", i, k)
			}
		}
	}
	scribble(first)
	if !same(g, want) {
		t.Errorf("P1014: what Collect answers shares memory with what it was given")
	}
	l := Live(g)
	clear(l)
	if !slices.Equal(Live(g), []int{1, 2, 5, 6, 7, 8, 9, 10, 11, 14}) {
		t.Errorf("P1014: Live again: %v", Live(g))
	}
}

// Lists of one graph may share memory; those of the answer do not.
func TestP1014SharedListsAreToldApart(t *testing.T) {
	list := []api.Value{null, null}
	x, _, _ := Collect(rooted(of(cell(1, 1, list...), cell(2, 1, list...), cell(3, 1, list...)), ref(1), ref(2), ref(3)))
	x.Nodes[0].Fields[0] = void
	if x.Nodes[1].Fields[0] != null || list[0] != null {
		t.Errorf("P1014: lists that share memory: %v", x)
	}
}

func TestP1014HeapAnswersNewMemory(t *testing.T) {
	x := begun(5)
	x.run(400)
	roots := []api.Value{null, ref(x.p.nodes[0].Id)}
	want := whole(t, x.h, roots...)
	scribble(whole(t, x.h, roots...))
	for _, n := range want.Nodes {
		v := ref(n.Id)
		own, _ := x.h.Node(v)
		scribbleNode(own)
		s, _ := x.h.Text(v)
		for i := range s {
			s[i] ^= 255
		}
	}
	if !same(whole(t, x.h, roots...), want) || roots[0] != null {
		t.Errorf("P1014: what the heap answers is its own memory")
	}
}

func TestP1014HeapKeepsNothing(t *testing.T) {
	h := New()
	b := roomy([]byte("hearth"), 'x')
	v, _ := h.MakeText(b)
	clear(b)
	if s, _ := h.Text(v); string(s) != "hearth" || string(b[:9]) != "\x00\x00\x00\x00\x00\x00xxx" {
		t.Errorf("P1014: the bytes of a text: %q, %q", s, b[:9])
	}
	roots := roomy([]api.Value{v, null}, char(5))
	g := whole(t, h, roots...)
	h.Collect(roots)
	sizes := roomy([]int{3, 1}, 9)
	h.Fits(sizes...)
	if !slices.Equal(roots[:5], []api.Value{v, null, char(5), char(5), char(5)}) || !slices.Equal(sizes[:5], []int{3, 1, 9, 9, 9}) {
		t.Errorf("P1014: the roots, the sizes: %v, %v", roots[:5], sizes[:5])
	}
	clear(roots)
	if !slices.Equal(g.Roots, []api.Value{v, null}) {
		t.Errorf("P1014: the roots are kept: %v", g.Roots)
	}
}

// What was looked at stays as it was told, whatever the heap does then.
func TestP1014WhatWasToldStays(t *testing.T) {
	h := New()
	w, m, b := made(t, h, 8, 0, 0), made(t, h, 10, 0, 0), made(t, h, 2, 0, 0)
	h.Set(w, 1, b)
	h.TablePut(m, b, b)
	g := whole(t, h, w, m)
	n, _ := h.Node(w)
	h.Set(w, 2, fixnum(3))
	h.Collect([]api.Value{w, m})
	if !same(g, rooted(of(cell(1, 8, b, void), table(2, b, b), cell(3, 2, void)), w, m)) || !alike(n, cell(1, 8, b, void)) {
		t.Errorf("P1014: what was told has changed: %v, %v", g, n)
	}
}

const many = 1000000

// A list of a million pairs, told from its end or from its beginning on.
func TestP1014LongLists(t *testing.T) {
	for _, down := range []bool{false, true} {
		g := api.Graph{Nodes: make([]api.Node, many)}
		for i := range g.Nodes {
			next := null
			if down && i > 0 {
				next = ref(i)
			} else if !down && i < many-1 {
				next = ref(i + 2)
			}
			g.Nodes[i] = cell(i+1, 1, fixnum(i), next)
		}
		g.Roots = []api.Value{ref(1)}
		if down {
			g.Roots = []api.Value{ref(many)}
		}
		x, r, e := Collect(g)
		if e != 0 || r != (api.Report{Kept: many}) || !Equal(x, g) {
			t.Errorf("P1014: a long list: %v, %d", r, e)
		}
	}
}

// A million ephemerons, each of which waits for what the one behind it has; in a row that is told backwards.
func TestP1014LongRowsOfEphemerons(t *testing.T) {
	const n = many / 5
	nodes := make([]api.Node, 0, 2*n+1)
	var all []api.Value
	for i := range n {
		nodes = append(nodes, cell(i+1, 9, ref(n+1+i), ref(n+2+i)))
		all = append(all, ref(i+1))
	}
	for i := range n + 1 {
		nodes = append(nodes, cell(n+1+i, 2, null))
	}
	slices.Reverse(all)
	g := api.Graph{Nodes: nodes, Roots: append(all, ref(n+1))}
	if l := Live(g); len(l) != 2*n+1 {
		t.Errorf("P1014: with the first key %d live", len(l))
	}
	g.Roots = all
	if x, r, _ := Collect(g); r != (api.Report{Kept: n, Freed: n + 1, Cleared: n}) || len(x.Nodes) != n {
		t.Errorf("P1014: without the first key: %v", r)
	}
}

// A table of many entries, put from the greatest key down, each of whose values is the next key.
func TestP1014GreatTables(t *testing.T) {
	const n = many / 5
	h := New()
	m := made(t, h, 10, 0, 0)
	for range n {
		made(t, h, 2, 0, 0)
	}
	for i := n; i > 0; i-- {
		next := null
		if i < n {
			next = ref(i + 2)
		}
		if h.TablePut(m, ref(i+1), next) != (api.Fault{}) {
			t.Fatalf("P1014: TablePut of the key %d", i+1)
		}
	}
	if c, _ := h.TableCount(m); c != n {
		t.Errorf("P1014: TableCount: %d", c)
	}
	if node, _ := h.Node(m); len(node.Entries) != n || node.Entries[0].Key != ref(2) || node.Entries[n-1].Key != ref(n+1) {
		t.Errorf("P1014: Node has %d entries", len(node.Entries))
	}
	if r, _ := h.Collect([]api.Value{m, ref(2)}); r != (api.Report{Kept: n + 1}) {
		t.Errorf("P1014: with the first key: %v", r)
	}
	if r, _ := h.Collect([]api.Value{m}); r != (api.Report{Kept: 1, Freed: n, Pruned: n}) {
		t.Errorf("P1014: without it: %v", r)
	}
}

func TestP1014LongListsOnAHeap(t *testing.T) {
	h := New()
	list := null
	for range many {
		v := made(t, h, 1, 0, 0)
		h.Set(v, 2, list)
		list = v
	}
	if r, fault := h.Collect([]api.Value{list}); r != (api.Report{Kept: many}) || fault.Err != 0 {
		t.Errorf("P1014: a long list: %v, %v", r, fault)
	}
	if r, fault := h.Collect(nil); r != (api.Report{Freed: many}) || fault.Err != 0 {
		t.Errorf("P1014: a long list that is gone: %v, %v", r, fault)
	}
}

// A heap that nobody made is an empty one: no call panics there.
func TestNoCallPanicsWithoutAHeap(t *testing.T) {
	var none *Heap
	refused(t, none, ref(1))
	refused(t, none, null)
	refused(t, &Heap{}, ref(1))
	for _, h := range []*Heap{none, {}} {
		if !h.Fits(1) {
			t.Errorf("rule 1: Fits is false")
		}
		if r, fault := h.Collect(nil); r != (api.Report{}) || fault.Err != 0 {
			t.Errorf("rule 1: Collect: %v, %v", r, fault)
		}
		if _, fault := h.Collect([]api.Value{ref(1)}); fault != no(33) {
			t.Errorf("rule 1: Collect of a root that is none: %v", fault)
		}
		if _, fault := h.Make(4, 0, 0); fault != no(24) {
			t.Errorf("rule 1: Make: %v", fault)
		}
		if v, fault := h.MakeText([]byte("x")); v != ref(1) || fault.Err != 0 {
			t.Errorf("rule 1: MakeText: %v, %v", v, fault)
		}
		h.Make(1, 0, 0)
		h.MakeTable()
	}
	zero := Heap{}
	if v := made(t, &zero, 1, 0, 0); v != ref(1) || zero.Set(v, 1, v) != (api.Fault{}) || len(whole(t, &zero).Nodes) != 1 {
		t.Errorf("rule 1: a heap that nobody made: %v", v)
	}
}
