package graph

import (
	"math/rand"
	"slices"
	"testing"

	"hearth/api"
)

// village is a graph with a node of each kind, by its number as its Id; 12 is a closure of function 4, 13 a frame of it, 14 a frame of function 3 (as 11).
func village() api.Graph {
	return of(
		cell(1, 1, fixnum(1), ref(2)), cell(2, 2, null), cell(3, 3, ref(1), char(65), ref(10)),
		api.Node{Id: 4, Kind: 4, Raw: []int{104, 105}}, api.Node{Id: 5, Kind: 5, Raw: []int{least}}, closure(6, 3, ref(5)),
		cell(7, 7, ref(11)), cell(8, 8, ref(4), void), cell(9, 9, ref(1), ref(9)), table(10, fixnum(-4), ref(1), ref(3), ref(7), ref(10), null),
		frame(11, 3, ref(14), ref(6), ref(1), ref(7)), closure(12, 4), frame(13, 4, null, ref(12)), frame(14, 3, null, null),
	)
}

func refuses(t *testing.T, what string, g api.Graph) {
	t.Helper()
	if e := Check(g); e != 40 {
		t.Errorf("%s: Check = %d", what, e)
	}
	if l := Live(g); len(l) != 0 {
		t.Errorf("P1003: %s: Live = %v", what, l)
	}
	if x, r, e := Collect(g); e != 40 || len(x.Nodes)+len(x.Roots) != 0 || r != (api.Report{}) {
		t.Errorf("P1004: %s: Collect = %v, %v, %d", what, x, r, e)
	}
}

func takes(t *testing.T, what string, g api.Graph) {
	t.Helper()
	if e := Check(g); e != 0 {
		t.Errorf("%s: Check = %d", what, e)
	}
}

// withNode is the village with one node more, the number 20.
func withNode(n api.Node) api.Graph {
	g := village()
	n.Id = 20
	g.Nodes = append(g.Nodes, n)
	return g
}

func TestP1002TakesEachKind(t *testing.T) {
	takes(t, "P1002: no graph at all", api.Graph{})
	takes(t, "P1002: the village", village())
	for id := 1; id <= 14; id++ {
		takes(t, "P1002: a root", rooted(village(), ref(id)))
	}
}

// plainNode is a node with so many raw numbers and fields.
func plainNode(kind, raws, fields int) api.Node {
	n := api.Node{Kind: kind, Raw: make([]int, max(raws, 0)), Fields: repeat(null, max(fields, 0))}
	return n
}

func TestP1001HowManyOfEach(t *testing.T) {
	for kind := 1; kind <= 11; kind++ {
		c := numbers[kind]
		for _, raws := range []int{0, 1, 2, 3, 4, 4095, 4096, 4097} {
			for _, fields := range []int{0, 1, 2, 3, 63, 64, 65, 66, 128, 129, 130, 131, 1022, 1023, 1024} {
				g := withNode(plainNode(kind, raws, fields))
				if raws >= c[0] && raws <= c[1] && fields >= c[2] && fields <= c[3] {
					takes(t, "P1001: as many raw numbers and fields as there are", g)
				} else if e := Check(g); e != 40 {
					t.Errorf("P1001: the kind %d, %d raw numbers, %d fields: Check = %d", kind, raws, fields, e)
				}
			}
		}
	}
}

func TestP1001OnlyTablesHaveEntries(t *testing.T) {
	for kind := 1; kind <= 11; kind++ {
		n := plainNode(kind, numbers[kind][0], numbers[kind][2])
		n.Entries = []api.Entry{}
		takes(t, "P1001: an empty list of entries", withNode(n))
		n.Entries = []api.Entry{{Key: null, Value: null}}
		if kind == 10 {
			takes(t, "P1001: a table's entry", withNode(n))
		} else {
			refuses(t, "P1001: an entry elsewhere", withNode(n))
		}
	}
}

func TestP1001Kinds(t *testing.T) {
	for _, kind := range append(wild(), 0, 12, 13, 14, 20) {
		for fields := range 4 {
			refuses(t, "P1001: no kind", withNode(plainNode(kind, 0, fields)))
		}
	}
}

func TestP1001Bytes(t *testing.T) {
	for b := range 256 {
		takes(t, "P1001: a byte", withNode(api.Node{Kind: 4, Raw: []int{b}}))
	}
	for _, b := range append(wild(), 256, 257, 511, 65536) {
		refuses(t, "P1001: no byte", withNode(api.Node{Kind: 4, Raw: []int{b}}))
		refuses(t, "P1001: no byte", withNode(api.Node{Kind: 4, Raw: []int{7, 255, b}}))
		takes(t, "P1001: bits", withNode(api.Node{Kind: 5, Raw: []int{b}}))
		takes(t, "P1001: a closure's function", withNode(api.Node{Kind: 6, Raw: []int{b}}))
		takes(t, "P1001: a frame's numbers", withNode(api.Node{Kind: 11, Raw: []int{b, b, b}, Fields: repeat(null, 2)}))
	}
}

// all are values of all sorts, of the village with the node 20.
func all() []api.Value {
	list := append(natives(), strangers()...)
	for id := -2; id < 23; id++ {
		list = append(list, ref(id))
	}
	return list
}

// is tells whether a value refers to one of these nodes.
func is(v api.Value, ids ...int) bool { return v.Kind == 2 && slices.Contains(ids, v.N) }

// plainThere tells whether a value is plain in the village with a node 20 of a kind.
func plainThere(v api.Value, kind int) bool {
	return slices.Contains(natives(), v) || is(v, 1, 2, 3, 4, 5, 6, 7, 8, 9, 10, 12) || is(v, 20) && kind != 11
}

// field looks whether the field k of a node takes what it should.
func field(t *testing.T, n api.Node, k int, want func(v api.Value) bool) {
	t.Helper()
	for _, v := range all() {
		own := copied(n)
		own.Fields[k] = v
		if e := Check(withNode(own)); (e == 0) != want(v) || e != 0 && e != 40 {
			t.Errorf("P1001: the kind %d, the field %d, %v: Check = %d", n.Kind, k, v, e)
		}
	}
}

func TestP1001PlainFields(t *testing.T) {
	for _, kind := range []int{1, 2, 3, 6, 8, 9, 11} {
		n := plainNode(kind, numbers[kind][0], min(numbers[kind][3], 9))
		for k := range n.Fields {
			if kind != 11 || k >= 2 {
				field(t, n, k, func(v api.Value) bool { return plainThere(v, kind) })
			}
		}
	}
}

func TestP1001Frames(t *testing.T) {
	field(t, cell(20, 7, null), 0, func(v api.Value) bool { return v == null || is(v, 11, 13, 14) })
	field(t, frame(20, 3, null, null, void), 0, func(v api.Value) bool { return v == null || is(v, 11, 13, 14, 20) })
	field(t, frame(20, 3, null, null, void), 1, func(v api.Value) bool { return v == null || is(v, 6) })
	field(t, frame(20, 4, null, null, void), 1, func(v api.Value) bool { return v == null || is(v, 12) })
	field(t, frame(20, 5, null, null, void), 1, func(v api.Value) bool { return v == null })
	far := closure(20, 1<<32+3)
	g := withNode(far)
	g.Nodes = append(g.Nodes, frame(21, 3, null, ref(20)))
	refuses(t, "P1001: another function, but in the upper bits", g)
}

// A value that is not valid leads nowhere, also if a node has that number.
func TestP1001NumbersBeyondReferences(t *testing.T) {
	far := 1 << 60
	takes(t, "P1002: an Id that no reference has", of(cell(far-1, 2, null), cell(far, 2, null), cell(greatest, 2, null)))
	takes(t, "P1001: the last reference", rooted(of(cell(1, 2, ref(far-1)), cell(far-1, 2, null)), ref(far-1)))
	for _, far := range []int{1 << 60, 1 << 61, greatest} {
		refuses(t, "P1001: a field beyond", of(cell(1, 2, ref(far)), cell(far, 2, null)))
		refuses(t, "P1001: a root beyond", rooted(of(cell(far, 2, null)), ref(far)))
		refuses(t, "P1001: a key beyond", of(table(1, ref(far), null), cell(far, 2, null)))
		refuses(t, "P1001: a cont's frame beyond", of(cell(1, 7, ref(far)), frame(far, 0, null, null)))
	}
}

func TestP1001Entries(t *testing.T) {
	for _, v := range all() {
		want := api.Errno(40)
		if plainThere(v, 10) {
			want = 0
		}
		if e := Check(withNode(table(20, v, null))); e != want {
			t.Errorf("P1001: the key %v: Check = %d", v, e)
		}
		if e := Check(withNode(table(20, null, v))); e != want {
			t.Errorf("P1001: the value %v: Check = %d", v, e)
		}
		if e := Check(withNode(table(20, fixnum(-9), null, char(0x10FFFF), v))); e != want {
			t.Errorf("P1001: the last value %v: Check = %d", v, e)
		}
	}
}

func TestP1001KeysRise(t *testing.T) {
	keys := []api.Value{fixnum(-1 << 60), fixnum(-1), fixnum(2), fixnum(10), fixnum(1<<60 - 1), ref(1), ref(2), ref(10), ref(20), null, void, char(0), char(7)}
	var list []api.Value
	for i, a := range keys {
		list = append(list, a, null)
		for k, b := range keys {
			g := withNode(table(20, a, null, b, null))
			if i < k {
				takes(t, "P1001: keys that rise", g)
			} else {
				refuses(t, "P1001: keys that do not", g)
			}
		}
	}
	takes(t, "P1001: many keys", withNode(table(20, list...)))
	refuses(t, "P1001: a key twice at the end", withNode(table(20, append(list, char(7), null)...)))
}

func TestP1001Roots(t *testing.T) {
	for _, v := range all() {
		want := slices.Contains(natives(), v) || v.Kind == 2 && v.N >= 1 && v.N <= 14
		for _, g := range []api.Graph{rooted(village(), v), rooted(village(), ref(1), v), rooted(village(), v, null)} {
			if e := Check(g); (e == 0) != want || e != 0 && e != 40 {
				t.Errorf("P1001: the roots %v: Check = %d", g.Roots, e)
			}
		}
	}
}

func TestP1002Ids(t *testing.T) {
	for _, ids := range [][]int{{1}, {2}, {1, 2}, {3, 9, 10}, {1, greatest}, {1, 1 << 32, 1<<32 + 1}} {
		var g api.Graph
		for _, id := range ids {
			g.Nodes = append(g.Nodes, cell(id, 2, null))
		}
		takes(t, "P1002: Ids that rise", g)
	}
	for _, ids := range [][]int{{0}, {-1}, {least}, {1, 1}, {2, 1}, {1, 0}, {1, 3, 2}, {1, 3, 3}, {1<<32 + 1, 1}, {-1, 1}, {greatest, least}} {
		var g api.Graph
		for _, id := range ids {
			g.Nodes = append(g.Nodes, cell(id, 2, null))
		}
		refuses(t, "P1002: Ids that do not", g)
	}
}

// livesAs looks at what lives, and at what a collection leaves.
func livesAs(t *testing.T, what string, g api.Graph, want []int, left []api.Node, r api.Report) {
	t.Helper()
	if l := Live(g); !slices.Equal(l, want) {
		t.Errorf("P1003: %s: Live = %v, want %v", what, l, want)
	}
	x, report, e := Collect(g)
	if e != 0 || report != r || !same(x, api.Graph{Nodes: left, Roots: g.Roots}) {
		t.Errorf("P1004: %s: Collect = %v, %v, %d", what, x, report, e)
	}
	if e := Check(x); e != 0 {
		t.Errorf("P1004: %s: Check of what is left = %d", what, e)
	}
	again, report, e := Collect(x)
	if e != 0 || report != (api.Report{Kept: r.Kept}) || !same(x, again) {
		t.Errorf("P1004: %s: collected again: %v, %v, %d", what, again, report, e)
	}
}

func TestP1003EachKindsFields(t *testing.T) {
	box := cell(9, 2, null)
	for _, c := range []struct {
		n    api.Node
		left []api.Value // nil: the node 9 lives
	}{
		{cell(1, 1, ref(9), null), nil}, {cell(1, 1, null, ref(9)), nil}, {cell(1, 2, ref(9)), nil},
		{cell(1, 3, null, ref(9), null), nil}, {cell(1, 3, null, null, ref(9)), nil}, {closure(1, 5, ref(9)), nil}, {closure(1, 5, null, ref(9)), nil},
		{cell(1, 8, null, ref(9)), nil}, {cell(1, 8, ref(9), ref(9)), nil}, {cell(1, 8, ref(9), null), []api.Value{broken, null}},
		{cell(1, 9, null, ref(9)), nil}, {cell(1, 9, ref(1), ref(9)), nil}, {cell(1, 9, broken, ref(9)), nil},
		{cell(1, 9, ref(9), null), []api.Value{broken, broken}}, {cell(1, 9, ref(9), ref(9)), []api.Value{broken, broken}},
		{frame(1, 3, null, null, ref(9)), nil}, {frame(1, 3, null, null, null, ref(9)), nil},
	} {
		g := rooted(of(c.n, box), ref(1))
		if c.left == nil {
			livesAs(t, "a field", g, []int{1, 9}, g.Nodes, api.Report{Kept: 2})
			continue
		}
		left := copied(c.n)
		left.Fields = c.left
		r := api.Report{Kept: 1, Freed: 1}
		if c.n.Kind == 8 {
			r.Broken = 1
		} else {
			r.Cleared = 1
		}
		livesAs(t, "a weak field", g, []int{1}, []api.Node{left}, r)
	}
	g := rooted(of(cell(1, 7, ref(2)), frame(2, 3, ref(3), ref(4)), frame(3, 5, null, null), closure(4, 3)), ref(1))
	livesAs(t, "a continuation", g, []int{1, 2, 3, 4}, g.Nodes, api.Report{Kept: 4})
}

func TestP1003Tables(t *testing.T) {
	boxes := []api.Node{cell(2, 2, null), cell(3, 2, null), cell(4, 2, null)}
	g := rooted(of(append([]api.Node{table(1, fixnum(1), ref(2), ref(3), ref(4), char(8), ref(3))}, boxes...)...), ref(1))
	livesAs(t, "a value holds on to another key", g, []int{1, 2, 3, 4}, g.Nodes, api.Report{Kept: 4})
	g = rooted(of(append([]api.Node{table(1, ref(1), ref(2), ref(2), ref(3), ref(4), ref(4))}, boxes...)...), ref(1))
	livesAs(t, "a row of keys", g, []int{1, 2, 3}, []api.Node{table(1, ref(1), ref(2), ref(2), ref(3)), boxes[0], boxes[1]}, api.Report{Kept: 3, Freed: 1, Pruned: 1})
	g = rooted(of(append([]api.Node{table(1, ref(2), ref(3), ref(3), ref(2), ref(4), ref(1))}, boxes...)...), ref(1))
	livesAs(t, "keys that hold each other", g, []int{1}, []api.Node{table(1)}, api.Report{Kept: 1, Freed: 3, Pruned: 3})
	g = rooted(of(append([]api.Node{table(1, ref(2), ref(3))}, boxes...)...), ref(4))
	livesAs(t, "a table that is gone loses nothing", g, []int{4}, boxes[2:], api.Report{Kept: 1, Freed: 3})
	g = rooted(of(append([]api.Node{table(1, ref(2), null, ref(3), null)}, append(boxes, table(5, ref(2), null, ref(4), null))...)...), ref(1), ref(5), ref(2))
	livesAs(t, "two tables", g, []int{1, 2, 5}, []api.Node{table(1, ref(2), null), boxes[0], table(5, ref(2), null)}, api.Report{Kept: 3, Freed: 2, Pruned: 2})
}

// Each one's key is the value of the one behind it: whatever the order of the Ids, all or none live.
func TestP1003RowsOfEphemerons(t *testing.T) {
	for seed := range int64(20) {
		const n = 50
		order := rand.New(rand.NewSource(seed)).Perm(n)
		nodes, roots := make([]api.Node, 2*n), []api.Value{null}
		for i, k := range order { // the ephemeron k+1 waits for the box n+1+i, and has the next one
			next := ref(n + 2 + i)
			if i == n-1 {
				next = null
			}
			nodes[k] = cell(k+1, 9, ref(n+1+i), next)
			nodes[n+i] = cell(n+1+i, 2, fixnum(i))
			roots = append(roots, ref(k+1))
		}
		g := rooted(of(nodes...), roots...)
		if l := Live(g); len(l) != n || l[n-1] != n {
			t.Fatalf("P1003: seed %d: without the first key: %v", seed, l)
		}
		if _, r, _ := Collect(g); r != (api.Report{Kept: n, Freed: n, Cleared: n}) {
			t.Fatalf("P1004: seed %d: without the first key: %v", seed, r)
		}
		g.Roots[0] = ref(n + 1)
		if l := Live(g); len(l) != 2*n {
			t.Fatalf("P1003: seed %d: with the first key: %v", seed, l)
		}
		if x, r, _ := Collect(g); r != (api.Report{Kept: 2 * n}) || !same(x, g) {
			t.Fatalf("P1004: seed %d: with the first key: %v", seed, r)
		}
	}
}

// Many wait for one key.
func TestP1003ManyWaitForOne(t *testing.T) {
	for _, late := range []bool{false, true} {
		g := of(cell(1, 9, ref(9), ref(5)), cell(2, 9, ref(9), ref(6)), cell(3, 3, ref(1), ref(2), ref(4)), table(4, ref(9), ref(7)),
			cell(5, 2, null), cell(6, 2, null), cell(7, 2, null), cell(8, 2, ref(9)), cell(9, 2, null))
		g.Roots = []api.Value{ref(8), ref(3)}
		if late {
			slices.Reverse(g.Roots)
		}
		livesAs(t, "three that wait", g, []int{1, 2, 3, 4, 5, 6, 7, 8, 9}, g.Nodes, api.Report{Kept: 9})
		g.Roots = []api.Value{ref(3)}
		livesAs(t, "three that wait in vain", g, []int{1, 2, 3, 4}, []api.Node{cell(1, 9, broken, broken), cell(2, 9, broken, broken), g.Nodes[2], table(4)},
			api.Report{Kept: 4, Freed: 5, Cleared: 2, Pruned: 1})
	}
}

func TestP1003Roots(t *testing.T) {
	g := village()
	livesAs(t, "no roots", g, nil, nil, api.Report{Freed: 14})
	livesAs(t, "roots that refer to nothing", rooted(g, fixnum(1), null, char(2)), nil, nil, api.Report{Freed: 14})
	livesAs(t, "a root twice", rooted(g, ref(2), ref(2)), []int{2}, g.Nodes[1:2], api.Report{Kept: 1, Freed: 13})
	livesAs(t, "a frame", rooted(g, ref(14)), []int{14}, g.Nodes[13:], api.Report{Kept: 1, Freed: 13})
	livesAs(t, "numbers as of nodes", rooted(of(cell(1, 2, fixnum(2)), cell(2, 2, char(1)), cell(3, 2, null)), ref(1), api.Value{Kind: 3, N: 3}), []int{1}, []api.Node{cell(1, 2, fixnum(2))}, api.Report{Kept: 1, Freed: 2})
}

// anyGraph is a graph of some nodes, most often one that Check takes.
func anyGraph(source *rand.Rand, wrong bool) api.Graph {
	var g api.Graph
	id, kinds := 0, []int{1, 2, 3, 4, 5, 6, 7, 8, 8, 9, 9, 9, 10, 10, 11}
	for range source.Intn(14) {
		id += 1 + source.Intn(2)
		g.Nodes = append(g.Nodes, api.Node{Id: id, Kind: kinds[source.Intn(len(kinds))]})
	}
	for i := range g.Nodes {
		n := &g.Nodes[i]
		c := numbers[n.Kind]
		for range c[0] + source.Intn(min(c[1], c[0]+3)-c[0]+1) {
			n.Raw = append(n.Raw, source.Intn(2))
		}
	}
	for i := range g.Nodes {
		n := &g.Nodes[i]
		c := numbers[n.Kind]
		for k := range c[2] + source.Intn(min(c[3], c[2]+3)-c[2]+1) {
			n.Fields = append(n.Fields, anyValue(source, func(v api.Value) bool { return mayPlain(g.Nodes, *n, k, v) }, id))
		}
		for n.Kind == 10 && source.Intn(5) > 0 {
			plain := func(v api.Value) bool { return plainValue(g.Nodes, v) }
			n.Entries = append(n.Entries, api.Entry{Key: anyValue(source, plain, id), Value: anyValue(source, plain, id)})
		}
		slices.SortFunc(n.Entries, func(a, b api.Entry) int {
			if lessPlain(a.Key, b.Key) {
				return -1
			}
			return 1
		})
		n.Entries = slices.CompactFunc(n.Entries, func(a, b api.Entry) bool { return a.Key == b.Key })
	}
	for range source.Intn(4) {
		g.Roots = append(g.Roots, anyValue(source, func(v api.Value) bool { return rootPlain(g.Nodes, v) }, id))
	}
	if wrong {
		spoil(source, &g)
	}
	return g
}

// anyValue is a value of which right holds; most often a reference.
func anyValue(source *rand.Rand, right func(api.Value) bool, last int) api.Value {
	for range 40 {
		v := ref(source.Intn(last + 2))
		if source.Intn(6) == 0 {
			v = natives()[source.Intn(len(natives()))]
		}
		if right(v) {
			return v
		}
	}
	return null
}

// spoil turns one thing of a graph, so that it is most often none.
func spoil(source *rand.Rand, g *api.Graph) {
	if len(g.Nodes) == 0 {
		return
	}
	n := &g.Nodes[source.Intn(len(g.Nodes))]
	v := all()[source.Intn(len(all()))]
	switch source.Intn(8) {
	case 0:
		n.Id += source.Intn(5) - 2
	case 1:
		n.Kind = source.Intn(14)
	case 2:
		n.Raw = append(n.Raw, 1)
	case 3:
		n.Fields = append(n.Fields, v)
	case 4:
		if len(n.Fields) > 0 {
			n.Fields[source.Intn(len(n.Fields))] = v
		}
	case 5:
		n.Entries = append(n.Entries, api.Entry{Key: v, Value: null})
	case 6:
		g.Roots = append(g.Roots, v)
	case 7:
		if len(n.Raw) > 0 {
			n.Raw[0] = source.Intn(600) - 200
		}
	}
}

func TestP1002ToP1004AnyGraphs(t *testing.T) {
	source := rand.New(rand.NewSource(10))
	taken, cleared, pruned := 0, 0, 0
	for turn := range 30000 {
		g := anyGraph(source, turn%3 == 0)
		if !checkPlain(g) {
			refuses(t, "P1002: any graph", g)
			continue
		}
		taken++
		takes(t, "P1002: any graph", g)
		var live []int
		for _, n := range g.Nodes {
			if livePlain(g)[n.Id] {
				live = append(live, n.Id)
			}
		}
		left, r := collectPlain(g)
		livesAs(t, "any graph", g, live, left.Nodes, r)
		cleared, pruned = cleared+r.Cleared, pruned+r.Pruned
		if t.Failed() {
			t.Fatalf("the graph of turn %d: %v", turn, g)
		}
	}
	if taken < 15000 || taken > 29000 || cleared < 1000 || pruned < 1000 {
		t.Errorf("of 30000 graphs %d were taken, %d ephemerons cleared, %d entries pruned", taken, cleared, pruned)
	}
}

func TestP1005Equal(t *testing.T) {
	base := rooted(village(), ref(1), null)
	if !Equal(base, rooted(village(), ref(1), null)) || !Equal(api.Graph{}, api.Graph{}) {
		t.Errorf("P1005: a graph is not its own")
	}
	for i, turn := range []func(g *api.Graph){
		func(g *api.Graph) { g.Nodes[0].Id = 7 },
		func(g *api.Graph) { g.Nodes[13].Id = 15 },
		func(g *api.Graph) { g.Nodes[0].Kind = 8 },
		func(g *api.Graph) { g.Nodes[3].Raw[1] = 104 },
		func(g *api.Graph) { g.Nodes[3].Raw = g.Nodes[3].Raw[:1] },
		func(g *api.Graph) { g.Nodes[1].Raw = []int{0} },
		func(g *api.Graph) { g.Nodes[2].Fields[2].N = 11 },
		func(g *api.Graph) { g.Nodes[2].Fields[2].Kind = 1 },
		func(g *api.Graph) { g.Nodes[2].Fields = g.Nodes[2].Fields[:2] },
		func(g *api.Graph) { g.Nodes[4].Fields = repeat(api.Value{}, 1) },
		func(g *api.Graph) { g.Nodes[9].Entries[1].Key.N = 4 },
		func(g *api.Graph) { g.Nodes[9].Entries[1].Value.N = 4 },
		func(g *api.Graph) { g.Nodes[9].Entries = g.Nodes[9].Entries[1:] },
		func(g *api.Graph) { g.Nodes[9].Entries = nil },
		func(g *api.Graph) { g.Nodes[0].Entries = make([]api.Entry, 1) },
		func(g *api.Graph) { g.Nodes = g.Nodes[:13] },
		func(g *api.Graph) { g.Nodes = nil },
		func(g *api.Graph) { g.Nodes[0], g.Nodes[1] = g.Nodes[1], g.Nodes[0] },
		func(g *api.Graph) { g.Roots = g.Roots[:1] },
		func(g *api.Graph) { g.Roots = nil },
		func(g *api.Graph) { g.Roots[0].N = 2 },
		func(g *api.Graph) { g.Roots[1].Kind = 1 },
		func(g *api.Graph) { slices.Reverse(g.Roots) },
		func(g *api.Graph) { g.Roots = append(g.Roots, null) },
	} {
		other := rooted(village(), ref(1), null)
		turn(&other)
		if Equal(base, other) || Equal(other, base) {
			t.Errorf("P1005: the difference %d is not told", i)
		}
		if !Equal(other, other) {
			t.Errorf("P1005: the graph %d is not its own", i)
		}
	}
}

func TestP1005NilAndEmpty(t *testing.T) {
	empty := api.Graph{Nodes: []api.Node{}, Roots: []api.Value{}}
	if !Equal(api.Graph{}, empty) || !Equal(empty, api.Graph{}) {
		t.Errorf("P1005: nil and empty lists of nodes and roots")
	}
	a := of(api.Node{Id: 1, Kind: 10})
	b := of(api.Node{Id: 1, Kind: 10, Raw: []int{}, Fields: []api.Value{}, Entries: []api.Entry{}})
	if !Equal(a, b) || !Equal(b, a) {
		t.Errorf("P1005: nil and empty lists of a node")
	}
}

func TestP1003AndP1004ChapterExamples(t *testing.T) {
	livesAs(t, "nothing", api.Graph{}, nil, nil, api.Report{})
	g := rooted(of(cell(1, 1, fixnum(1), ref(2)), cell(2, 2, ref(1)), cell(3, 2, null)), ref(2))
	livesAs(t, "a ring", g, []int{1, 2}, g.Nodes[:2], api.Report{Kept: 2, Freed: 1})
	g = rooted(of(cell(1, 8, ref(2), null), cell(2, 2, null)), ref(1))
	livesAs(t, "a weak pair", g, []int{1}, []api.Node{cell(1, 8, broken, null)}, api.Report{Kept: 1, Freed: 1, Broken: 1})
	g = rooted(of(cell(1, 9, ref(2), ref(3)), cell(2, 2, null), cell(3, 2, ref(2))), ref(1))
	livesAs(t, "an ephemeron", g, []int{1}, []api.Node{cell(1, 9, broken, broken)}, api.Report{Kept: 1, Freed: 2, Cleared: 1})
	g.Roots = []api.Value{ref(1), ref(2)}
	livesAs(t, "the same, with its key", g, []int{1, 2, 3}, g.Nodes, api.Report{Kept: 3})
	g = rooted(of(table(1, fixnum(7), ref(2), ref(3), ref(4)), cell(2, 2, null), cell(3, 2, null), cell(4, 2, null)), ref(1))
	livesAs(t, "a table", g, []int{1, 2}, []api.Node{table(1, fixnum(7), ref(2)), g.Nodes[1]}, api.Report{Kept: 2, Freed: 2, Pruned: 1})
	g = rooted(of(cell(1, 9, ref(2), ref(3)), cell(2, 2, null), cell(3, 2, null), cell(4, 9, ref(3), ref(2))), ref(1), ref(4))
	livesAs(t, "two ephemerons", g, []int{1, 4}, []api.Node{cell(1, 9, broken, broken), cell(4, 9, broken, broken)}, api.Report{Kept: 2, Freed: 2, Cleared: 2})
}

func TestP1002ChapterExamples(t *testing.T) {
	for what, g := range map[string]api.Graph{
		"Ids 2, 1":           of(cell(2, 2, null), cell(1, 2, null)),
		"an Id 0":            of(cell(0, 2, null)),
		"one field":          of(cell(1, 1, null)),
		"256":                of(api.Node{Id: 1, Kind: 4, Raw: []int{256}}),
		"ref 9":              of(cell(1, 2, ref(9))),
		"a frame in a pair":  of(cell(1, 1, null, ref(2)), frame(2, 0, null, null)),
		"another function":   of(frame(1, 3, null, ref(2)), closure(2, 4)),
		"keys 2, 1":          of(table(1, fixnum(2), null, fixnum(1), null)),
		"the root {ValImm 6": rooted(of(cell(1, 2, null)), ref(1), api.Value{Kind: 3, N: 6}),
	} {
		refuses(t, what, g)
	}
}
