package show

import (
	"math/rand"
	"runtime/debug"
	"slices"
	"strings"
	"sync"
	"testing"
	"time"

	"hearth/api"
	"hearth/gc"
	"hearth/graph"
	"hearth/table"
)

// Graphs without a rule, with wrong values now and then, against the chapter's words.
func TestP1701ToP1704LongPasts(t *testing.T) {
	told := map[api.Errno]int{}
	large, labelled := 0, 0
	for seed := range int64(3000) {
		x := past{rand.New(rand.NewSource(seed))}
		ids := []int{1, 2, 4, 8, 30, 900}[seed%6]
		g := x.graph(ids, int(seed/6%3)*8)
		for range 4 {
			v := x.value(ids, 100)
			want, wantFault, asked := plainShow(plainNodes(g), v)
			got, fault := Graph(g, v)
			if got != want || fault != wantFault {
				t.Fatalf("P1704: seed %d: Graph(%v, %v) = %q, %v, want %q, %v", seed, g, v, got, fault, want, wantFault)
			}
			var numbers []int
			for _, r := range asked {
				numbers = append(numbers, r.N)
			}
			asks(t, g, v, numbers...)
			told[fault.Err]++
			if got == "#<large>" {
				large++
			}
			if strings.Contains(got, "#1=") {
				labelled++
			}
		}
	}
	if told[0] < 5000 || told[30] < 100 || told[33] < 400 || large < 150 || labelled < 500 {
		t.Errorf("what was told: %v, %d large, %d with labels", told, large, labelled)
	}
}

// renumbered is a graph with other numbers, in another order, and the value in it.
func renumbered(g api.Graph, v val, source *rand.Rand) (api.Graph, val) {
	number := map[int]int{}
	for i, n := range source.Perm(3 * len(g.Nodes))[:len(g.Nodes)] {
		number[g.Nodes[i].Id] = n * 1000
	}
	carry := func(v val) val {
		if n, there := number[v.N]; v.Kind == 2 && there {
			v.N = n
		} else if v.Kind == 2 && v.N >= 0 {
			v.N = 1 << 50
		}
		return v
	}
	out := copyGraph(g)
	for i := range out.Nodes {
		n := &out.Nodes[i]
		n.Id = number[n.Id]
		for k := range n.Fields {
			n.Fields[k] = carry(n.Fields[k])
		}
	}
	source.Shuffle(len(out.Nodes), func(i, k int) { out.Nodes[i], out.Nodes[k] = out.Nodes[k], out.Nodes[i] })
	return out, carry(v)
}

func TestP1705OtherNumbers(t *testing.T) {
	told := map[string]int{}
	for seed := range int64(3000) {
		x := past{rand.New(rand.NewSource(seed))}
		ids := []int{2, 5, 12, 40}[seed%4]
		g := x.graph(ids, int(seed%2)*5)
		v := x.value(ids, 0)
		g2, v2 := renumbered(g, v, x.source)
		one, f := Graph(g, v)
		two, f2 := Graph(g2, v2)
		if one != two || f != f2 {
			t.Fatalf("P1705: seed %d: %q, %v of %v in %v, but %q, %v of %v in %v", seed, one, f, v, g, two, f2, v2, g2)
		}
		told[one]++
	}
	if len(told) < 800 {
		t.Errorf("only %d texts", len(told))
	}
}

// twin is a heap in the arena, and one of nodes, which are told the same.
type twin struct {
	h      *table.Heap
	g      *graph.Heap
	source *rand.Rand
	list   []api.Block // the arena's objects with serials
}

// look finds what there is.
func (x *twin) look() {
	x.list = nil
	for b := range x.h.All() {
		if b.Serial > 0 {
			x.list = append(x.list, b)
		}
	}
}

// value is one in the arena, and the same one among nodes; of kinds up to most.
func (x *twin) value(most int) (val, val) {
	if len(x.list) > 0 && x.source.Intn(5) > 0 {
		if b := x.list[x.source.Intn(len(x.list))]; b.Kind <= most {
			return ref(b.At), ref(b.Serial)
		}
	}
	v := []val{fix(x.source.Intn(20)), imm(x.source.Intn(6)), letter(x.source.Intn(100))}[x.source.Intn(3)]
	return v, v
}

// turn tells both heaps the same.
func (x *twin) turn(t *testing.T) {
	t.Helper()
	x.look()
	if x.source.Intn(3) == 0 && x.h.Fits(20) {
		if b := []byte{byte(x.source.Intn(256)), 34, 92, 'z'}; x.source.Intn(5) == 0 {
			x.h.MakeText(b)
			x.g.MakeText(b)
			return
		}
		kind, n, tag := []int{1, 1, 1, 2, 3, 3, 5, 6, 7, 8, 9, 10, 11}[x.source.Intn(13)], x.source.Intn(8), x.source.Intn(3)
		if kind != 3 && kind != 6 && kind != 11 {
			n = 0
		}
		if kind != 6 && kind != 11 {
			tag = 0
		}
		_, one := x.h.Make(kind, n, tag)
		_, two := x.g.Make(kind, n, tag)
		if one != ok || two != ok {
			t.Fatalf("Make(%d, %d, %d): %v, %v", kind, n, tag, one, two)
		}
		return
	}
	a, a2 := x.value(11)
	v, v2 := x.value(10)
	i := 1 + x.source.Intn(6)
	if b, _ := x.h.Open(a); b.Kind == api.KindTable { // its words are none among nodes
		return
	}
	if one, two := x.h.Set(a, i, v), x.g.Set(a2, i, v2); (one.Err == 0) != (two.Err == 0) {
		t.Fatalf("the heaps stand apart: Set(%v, %d, %v) = %v, %v", a, i, v, one, two)
	}
}

// all are values in the arena and among nodes, of each object that there is.
func (x *twin) all() (list, list) {
	x.look()
	var one, two list
	for _, b := range x.list {
		one, two = append(one, ref(b.At)), append(two, ref(b.Serial))
	}
	return one, two
}

// The arena's heap, a heap of nodes that was told the same, and the graph of either tell one text, ahead of collections and behind them.
func TestP1705OverAnyHeap(t *testing.T) {
	texts := map[string]int{}
	for seed := range int64(60) {
		x := &twin{heap(t, 12), graph.New(), rand.New(rand.NewSource(seed)), nil}
		for turn := range 600 {
			x.turn(t)
			if turn%60 > 0 {
				continue
			}
			one, two := x.all()
			if turn%120 == 0 && len(one) > 6 {
				gc.Collect(x.h, one[:6])
				x.g.Collect(two[:6])
				one, two = x.all()
			}
			g, fault := x.h.Graph(nil)
			if fault != ok {
				t.Fatal(fault)
			}
			for i, v := range one {
				want, f, _ := plainShow(plainNodes(g), two[i])
				inArena, f1 := Value(x.h, v)
				amongNodes, f2 := Value(x.g, two[i])
				inGraph, f3 := Graph(g, two[i])
				if f != ok || f1 != ok || f2 != ok || f3 != ok || inArena != want || amongNodes != want || inGraph != want {
					t.Fatalf("P1705: seed %d, turn %d, %v: %q, %q, %q, %v, %v, %v, want %q", seed, turn, v, inArena, amongNodes, inGraph, f1, f2, f3, want)
				}
				texts[want]++
			}
		}
	}
	if len(texts) < 1000 {
		t.Errorf("only %d texts", len(texts))
	}
}

// heap is a heap that is to be made.
func heap(t testing.TB, n int) *table.Heap {
	t.Helper()
	h, e := table.New(n)
	if h == nil || e != api.OK {
		t.Fatalf("New(%d): %v, %d", n, h, e)
	}
	return h
}

// A word of the arena that is wrong is told with its index; the heap stays as it was.
func TestP1701WrongWordsOfTheArena(t *testing.T) {
	h := heap(t, 4)
	a, _ := h.Make(api.KindPair, 0, 0)
	b, _ := h.Make(api.KindBox, 0, 0)
	h.Set(a, 2, b)
	if s, f := Value(h, a); s != "(#!void . #&#!void)" || f != ok {
		t.Errorf("P1703: %q, %v", s, f)
	}
	for _, at := range []int{b.N + 1, b.N, a.N + 1, a.N} {
		h.Poke(at, 7)
		d := h.Dump()
		if s, f := Value(h, a); s != "" || f != (api.Fault{Err: api.ErrCorrupt, At: at}) {
			t.Errorf("P1701: a wrong word at %d: %q, %v", at, s, f)
		}
		if !slices.Equal(d.Words, h.Dump().Words) {
			t.Errorf("rule 3: Value has changed the heap")
		}
	}
	for _, v := range []val{ref(1), ref(60), ref(10000)} {
		if s, f := Value(h, v); s != "" || f != (api.Fault{Err: api.ErrRef}) {
			t.Errorf("P1701: Value(%v) = %q, %v", v, s, f)
		}
	}
}

// A heap that tells all its nodes in the same memory is shown as one that does not.
func TestP1701ANodeIsReadWhenItIsTold(t *testing.T) {
	for seed := range int64(500) {
		x := past{rand.New(rand.NewSource(seed))}
		g := x.graph(12, 2)
		var raw [32]int
		var fields [32]val
		h := asker(func(v val) (api.Node, api.Fault) {
			n, f := plainNodes(g)(v)
			n.Raw = raw[:copy(raw[:], n.Raw)]
			n.Fields = fields[:copy(fields[:], n.Fields)]
			return n, f
		})
		v := x.value(12, 2)
		want, wantFault, _ := plainShow(plainNodes(g), v)
		if got, f := Value(h, v); got != want || f != wantFault {
			t.Fatalf("P1701: seed %d: %q, %v, want %q, %v", seed, got, f, want, wantFault)
		}
	}
}

// What lies behind the ends of a graph's lists is neither shown nor written.
func TestP1704SpareRoom(t *testing.T) {
	fields := append(make(list, 0, 6), fix(1), ref(2))
	raw := append(make([]int, 0, 6), 65)
	nodes := append(make([]api.Node, 0, 6), pair(1, ref(3), ref(2)), rawNode(2, 4), vector(3))
	nodes[1].Raw, nodes[2].Fields = raw, fields
	raw[:6][1], fields[:6][2], nodes[:6][3] = 66, fix(5), box(2, fix(1))
	old, oldRaw, oldFields := copyGraph(graphOf(nodes[:6]...)), slices.Clone(raw[:6]), slices.Clone(fields[:6])
	tells(t, "P1704", graphOf(nodes...), ref(1), "(#(1 \"A\") . \"A\")", ok)
	if !sameGraph(old, graphOf(nodes[:6]...)) || !slices.Equal(oldRaw, raw[:6]) || !slices.Equal(oldFields, fields[:6]) {
		t.Errorf("rule 3: Graph has written into spare room")
	}
}

// bare is a heap that panics, where it is none.
type bare struct{ n api.Node }

func (b *bare) Node(v val) (api.Node, api.Fault) { return b.n, ok }

func TestNoCallPanicsWithoutAHeap(t *testing.T) {
	refused, _ := table.New(0)
	var none *graph.Heap
	var nobody *bare
	for i, h := range []Heap{nil, refused, &table.Heap{}, none, &graph.Heap{}, nobody, asker(nil), nodes{}} {
		for _, v := range []val{ref(0), ref(1), ref(mostFix)} {
			if s, f := Value(h, v); s != "" || f != (api.Fault{Err: api.ErrRef}) {
				t.Errorf("rule 1: heap %d: Value(%v) = %q, %v", i, v, s, f)
			}
		}
		if s, f := Value(h, val{}); s != "" || f != (api.Fault{Err: api.ErrValue}) {
			t.Errorf("rule 1: heap %d: Value of no value = %q, %v", i, s, f)
		}
		if s, f := Value(h, fix(5)); s != "5" || f != ok {
			t.Errorf("rule 1: heap %d: Value of 5 = %q, %v", i, s, f)
		}
	}
}

// soon makes a call on a stack on which nothing can be deep, and tells a fault, if it takes far longer than going a few times over the greatest graph.
func soon(t *testing.T, call func()) {
	t.Helper()
	defer debug.SetMaxStack(debug.SetMaxStack(1 << 18))
	start := time.Now()
	call()
	if took := time.Since(start); took > 5*time.Second {
		t.Errorf("rule 7: a text has taken %v", took)
	}
}

// A list of a million pairs, boxes in boxes, and nodes with far more than is shown.
func TestP1701GreatGraphs(t *testing.T) {
	var nodes []api.Node
	for i := range 1000000 {
		nodes = append(nodes, pair(i, fix(i), ref(i+1)))
	}
	nodes = append(nodes, pair(1000000, fix(0), ref(999990)))
	long := graphOf(nodes...)
	much := asker(func(v val) (api.Node, api.Fault) {
		return api.Node{Id: v.N, Kind: 3, Fields: append(list{ref(v.N + 1)}, many(fix(0), 1<<13)...)}, ok
	})
	text := rawNode(1, 4, make([]int, 1<<22)...)
	soon(t, func() {
		if s, f := Graph(long, ref(0)); s != "#<large>" || f != ok {
			t.Errorf("P1701: a list of a million pairs: %q, %v", s, f)
		}
		if s, f := Graph(long, ref(999989)); s != "(999989 . #0=(999990 999991 999992 999993 999994 999995 999996 999997 999998 999999 0 . #0#))" || f != ok {
			t.Errorf("P1702: the end of a list of a million pairs: %q, %v", s, f)
		}
		if s, f := Value(much, ref(1)); s != "#<large>" || f != ok {
			t.Errorf("P1701: vectors in vectors: %q, %v", s, f)
		}
		if s, f := Graph(graphOf(text), ref(1)); s != "#<large>" || f != ok {
			t.Errorf("P1701: a great text: %q, %v", s, f)
		}
	})
}

// As deep as a printing shows: 499 containers in one another, of each kind.
func TestP1701DeepTexts(t *testing.T) {
	for kind, form := range map[int][2]string{2: {"#&", ""}, 3: {"#(", ")"}} {
		for _, n := range []int{499, 500} {
			var nodes []api.Node
			for i := range n {
				nodes = append(nodes, node(i, kind, ref(i+1)))
			}
			nodes[n-1].Fields[0] = fix(7)
			want := strings.Repeat(form[0], n) + "7" + strings.Repeat(form[1], n)
			if n == 500 {
				want = "#<large>"
			}
			tells(t, "P1701", graphOf(nodes...), ref(0), want, ok)
		}
	}
	var nodes []api.Node
	for i := range 249 {
		nodes = append(nodes, pair(i, ref(i+1), fix(1)))
	}
	nodes = append(nodes, node(249, 10))
	tells(t, "P1701", graphOf(nodes...), ref(0), strings.Repeat("(", 249)+"#<table>"+strings.Repeat(" . 1)", 249), ok)
}

func TestRule3SideBySide(t *testing.T) {
	x := past{rand.New(rand.NewSource(1))}
	g := x.graph(60, 0)
	want := make([]string, 60)
	for i := range want {
		want[i], _, _ = plainShow(plainNodes(g), ref(1+i))
	}
	alike := make([]bool, 8)
	var workers sync.WaitGroup
	for w := range alike {
		workers.Go(func() {
			alike[w] = true
			for i := range want {
				got, f := Graph(g, ref(1+i))
				alike[w] = alike[w] && got == want[i] && f == ok
			}
		})
	}
	workers.Wait()
	if slices.Contains(alike, false) {
		t.Errorf("rule 3: side by side: %v", alike)
	}
}
