package show

import (
	"fmt"
	"slices"
	"strings"
	"testing"

	"hearth/api"
)

// asks tells a fault, if Value does not ask for just these nodes, in this order, each once.
func asks(t testing.TB, g api.Graph, v val, want ...int) {
	t.Helper()
	var asked []int
	nodes := plainNodes(g)
	Value(asker(func(v val) (api.Node, api.Fault) {
		if v.Kind != 2 {
			t.Errorf("P1701: %v was asked for", v)
		}
		asked = append(asked, v.N)
		return nodes(v)
	}), v)
	if !slices.Equal(asked, want) {
		t.Errorf("P1701: of %v in %v the nodes %v were asked for, want %v", v, g, asked, want)
	}
}

func TestP1701Order(t *testing.T) {
	g := graphOf(
		vector(1, ref(2), ref(3), ref(2), ref(9)),
		pair(2, ref(4), ref(5)),
		box(3, ref(6)),
		box(4, ref(1)),
		node(5, api.KindWeak, ref(99), val{}),
		rawNode(6, api.KindText, 1),
		rawNode(9, api.KindFlo, 1),
	)
	asks(t, g, ref(1), 1, 2, 4, 5, 3, 6, 9)
	asks(t, g, ref(2), 2, 4, 1, 3, 6, 9, 5)
	asks(t, g, fix(1))
	asks(t, g, null)
	asks(t, g, ref(-1))
	asks(t, g, ref(7), 7)
}

// A leaf is not looked into, whatever it has.
func TestP1701Leaves(t *testing.T) {
	for kind := -1; kind < 20; kind++ {
		if kind >= 1 && kind <= 3 {
			continue
		}
		n := api.Node{Id: 1, Kind: kind, Fields: list{ref(8), {}, fix(1 << 60)}, Entries: []api.Entry{{Key: ref(8), Value: val{}}}}
		tells(t, "P1701", graphOf(n), ref(1), plainLeaf(n), ok)
		asks(t, graphOf(n), ref(1), 1)
	}
}

// A pair has two values and a box one, whatever else the node has.
func TestP1701AsManyAsTheKindHas(t *testing.T) {
	for _, x := range []struct {
		n    api.Node
		want string
	}{
		{pair(1), "(())"},
		{pair(1, fix(7)), "(7)"},
		{pair(1, fix(7), fix(8), val{}), "(7 . 8)"},
		{pair(1, fix(7), fix(8), ref(5), ref(6)), "(7 . 8)"},
		{box(1), "#&()"},
		{box(1, fix(7), val{}), "#&7"},
		{box(1, fix(7), ref(5), ref(6)), "#&7"},
		{vector(1), "#()"},
		{vector(1, fix(7)), "#(7)"},
		{api.Node{Id: 1, Kind: 3, Raw: []int{1, 2}, Fields: list{null}, Entries: make([]api.Entry, 2)}, "#(())"},
	} {
		tells(t, "P1701", graphOf(x.n), ref(1), x.want, ok)
	}
	tells(t, "P1701", graphOf(vector(1, fix(7), val{})), ref(1), "", api.Fault{Err: 33})
}

func TestP1701WrongValues(t *testing.T) {
	for _, v := range []val{{}, {Kind: 0, N: 1}, {Kind: 1, N: 1 << 60}, {Kind: 1, N: -1<<60 - 1}, {Kind: 2, N: -1}, {Kind: 2, N: 1 << 60}, {Kind: 3, N: 6}, {Kind: 3, N: -1}, {Kind: 4, N: -1}, {Kind: 4, N: 0xD800}, {Kind: 4, N: 0xDFFF}, {Kind: 4, N: 0x110000}, {Kind: 4, N: greatest}, {Kind: 5, N: 1}, {Kind: -1, N: least}, {Kind: greatest, N: greatest}} {
		g := graphOf(pair(1, fix(1), v), pair(2, v, ref(9)), vector(3, fix(1), ref(9), v), box(4, v), box(v.N, fix(1)))
		wrong := api.Fault{Err: api.ErrValue}
		tells(t, "P1701", g, v, "", wrong)
		tells(t, "P1701", g, ref(1), "", wrong)
		tells(t, "P1701", g, ref(2), "", wrong)
		tells(t, "P1701", g, ref(3), "", api.Fault{Err: api.ErrRef})
		tells(t, "P1701", g, ref(4), "", wrong)
	}
	for _, v := range []val{fix(mostFix), fix(leastFix), letter(0xD7FF), letter(0xE000), letter(0x10FFFF), imm(5)} {
		tells(t, "P1701", graphOf(box(1, v)), ref(1), "#&"+plainSimple(v), ok)
	}
	tells(t, "P1701", graphOf(box(mostFix, ref(0)), box(0, null)), ref(mostFix), "#&#&()", ok)
}

// A fault of the heap's is the answer, as it is.
func TestP1701FaultsOfTheHeap(t *testing.T) {
	for _, want := range []api.Fault{{Err: 30}, {Err: 21, At: 77}, {Err: 21}, {Err: 31}, {Err: -5, At: -6}, {Err: 1, At: greatest}} {
		h := asker(func(v val) (api.Node, api.Fault) {
			if v.N == 1 {
				return vector(1, fix(5), ref(2), val{}), ok
			}
			return box(2, fix(5)), want
		})
		for _, v := range []val{ref(1), ref(2)} {
			if s, f := Value(h, v); s != "" || f != want {
				t.Errorf("P1701: Value(%v) = %q, %v, want %v", v, s, f, want)
			}
		}
	}
}

// counts tells a fault, if a value is not shown just where its count is up to 500; it gets as many zeros as make its count n.
func counts(t *testing.T, what string, with func(zeros list) api.Graph, least int) {
	t.Helper()
	for n := max(least, 497); n < 505; n++ {
		g := with(many(fix(0), n-least))
		want, f, _ := plainShow(plainNodes(g), ref(1))
		if large := want == "#<large>"; large != (n > 500) {
			t.Errorf("P1701: %s: the plain text of a count of %d is %q", what, n, want)
		}
		if got, fault := Graph(g, ref(1)); got != want || fault != f {
			t.Errorf("P1701: %s: a count of %d: %q, %v, want %q, %v", what, n, got, fault, want, f)
		}
	}
}

func TestP1701Counts(t *testing.T) {
	counts(t, "a vector", func(zeros list) api.Graph { return graphOf(vector(1, zeros...)) }, 1)
	counts(t, "a text", func(zeros list) api.Graph { return graphOf(rawNode(1, 4, make([]int, len(zeros))...)) }, 1)
	counts(t, "a text in a vector", func(zeros list) api.Graph {
		return graphOf(vector(1, append(zeros, ref(2))...), rawNode(2, 4, 1, 2, 3))
	}, 5)
	counts(t, "a text met twice", func(zeros list) api.Graph {
		return graphOf(vector(1, append(zeros, ref(2), ref(2))...), rawNode(2, 4, 1, 2, 3))
	}, 9)
	counts(t, "a pair met thrice", func(zeros list) api.Graph {
		return graphOf(vector(1, append(zeros, ref(2), ref(2), ref(2))...), pair(2, fix(1), fix(2), val{}))
	}, 6)
	counts(t, "leaves with much in them", func(zeros list) api.Graph {
		return graphOf(vector(1, append(zeros, ref(2), ref(3))...), rawNode(2, 5, 1, 2, 3), node(3, 9, many(fix(1), 600)...))
	}, 3)
	counts(t, "what a pair lacks", func(zeros list) api.Graph {
		return graphOf(vector(1, append(zeros, ref(2), ref(3))...), pair(2), box(3))
	}, 6)
	counts(t, "simple values", func(zeros list) api.Graph {
		return graphOf(vector(1, append(list{null, letter(65), imm(5), fix(-7)}, zeros...)...))
	}, 5)
	counts(t, "a list", func(zeros list) api.Graph {
		g := graphOf(vector(1, append(zeros, ref(2))...))
		for i := 2; i < 102; i++ {
			g.Nodes = append(g.Nodes, pair(i, fix(i), ref(i+1)))
		}
		return graphOf(append(g.Nodes, pair(102, fix(3), null))...)
	}, 204)
}

// Where the count is too great nothing more is looked at: neither a wrong value nor a node.
func TestP1701NothingBehindTheLast(t *testing.T) {
	wrong := api.Fault{Err: api.ErrValue}
	for n, want := range map[int]api.Fault{498: wrong, 499: ok, 500: ok} {
		s := map[bool]string{true: "#<large>"}[want == ok]
		tells(t, "P1701", graphOf(vector(1, append(many(fix(0), n), val{})...)), ref(1), s, want)
	}
	for n, want := range map[int]api.Fault{498: {Err: api.ErrRef}, 499: ok, 500: ok} {
		g := graphOf(vector(1, append(many(fix(0), n), ref(5))...))
		s := map[bool]string{true: "#<large>"}[want == ok]
		tells(t, "P1701", g, ref(1), s, want)
		if want == ok {
			asks(t, g, ref(1), 1)
		} else {
			asks(t, g, ref(1), 1, 5)
		}
	}
	// A text's node is looked at ahead of its bytes' counting, and what comes behind it is not.
	g := graphOf(vector(1, append(many(fix(0), 498), ref(2), ref(3), val{})...), rawNode(2, 4, 65))
	tells(t, "P1701", g, ref(1), "#<large>", ok)
	asks(t, g, ref(1), 1, 2)
	g = graphOf(vector(1, ref(2), ref(3), ref(2), ref(9), val{}), rawNode(2, 4, make([]int, 260)...), box(3, null))
	tells(t, "P1701", g, ref(1), "#<large>", ok)
	asks(t, g, ref(1), 1, 2, 3)
}

func TestP1702Labels(t *testing.T) {
	for _, x := range []struct {
		nodes []api.Node
		want  string
	}{
		{[]api.Node{pair(1, fix(1), ref(1))}, "#0=(1 . #0#)"},
		{[]api.Node{pair(1, ref(1), fix(1))}, "#0=(#0# . 1)"},
		{[]api.Node{pair(1, ref(1), ref(1))}, "#0=(#0# . #0#)"},
		{[]api.Node{box(1, ref(1))}, "#0=#&#0#"},
		{[]api.Node{vector(1, ref(1), fix(2), ref(1))}, "#0=#(#0# 2 #0#)"},
		{[]api.Node{pair(1, ref(2), ref(2)), pair(2, fix(1), null)}, "(#0=(1) . #0#)"},
		{[]api.Node{pair(1, fix(7), ref(2)), pair(2, fix(8), ref(2))}, "(7 . #0=(8 . #0#))"},
		{[]api.Node{pair(1, fix(7), ref(2)), pair(2, fix(8), ref(1))}, "#0=(7 8 . #0#)"},
		{[]api.Node{vector(1, ref(2), ref(3), ref(2)), box(2, ref(1)), node(3, api.KindWeak)}, "#0=#(#1=#&#0# #<weak> #1#)"},
		{[]api.Node{vector(1, ref(9), ref(2), ref(2), ref(9)), box(2, fix(1)), box(9, fix(2))}, "#(#0=#&2 #1=#&1 #1# #0#)"},
		{[]api.Node{vector(1, ref(2), ref(3), ref(3)), pair(2, fix(1), ref(3)), pair(3, fix(2), null)}, "#((1 . #0=(2)) #0# #0#)"},
		{[]api.Node{pair(1, ref(3), ref(2)), pair(2, fix(1), ref(3)), pair(3, fix(2), null)}, "(#0=(2) 1 . #0#)"},
		{[]api.Node{vector(1, ref(2), ref(2)), vector(2)}, "#(#0=#() #0#)"},
		// The outer one of two that stand at one place has the lesser number.
		{[]api.Node{vector(1, ref(2), ref(2), ref(3)), box(2, ref(3)), pair(3, null, null)}, "#(#0=#&#1=(()) #0# #1#)"},
		// One that is met once has no label, and neither has its number been used up.
		{[]api.Node{vector(1, ref(4), ref(2), ref(2)), box(2, fix(1)), box(4, fix(1))}, "#(#&1 #0=#&1 #0#)"},
		// Leaves have none, and do not count either.
		{[]api.Node{vector(1, ref(2), ref(2), ref(3), ref(3)), rawNode(2, 4, 65), box(3, null)}, "#(\"A\" \"A\" #0=#&() #0#)"},
		{[]api.Node{vector(1, ref(2), ref(3), ref(2), ref(3)), node(2, 10), rawNode(3, 6, 4)}, "#(#<table> #<closure 4> #<table> #<closure 4>)"},
	} {
		tells(t, "P1702", graphOf(x.nodes...), ref(1), x.want, ok)
	}
}

// More than ten labels: they are told in decimal digits.
func TestP1702ManyLabels(t *testing.T) {
	g, want := graphOf(vector(1)), []string{}
	for i := range 120 {
		g.Nodes[0].Fields = append(g.Nodes[0].Fields, ref(200-i))
		g.Nodes = append(g.Nodes, box(200-i, ref(200-i)))
		want = append(want, fmt.Sprintf("#%d=#&#%d#", i, i))
	}
	tells(t, "P1702", g, ref(1), "#("+strings.Join(want, " ")+")", ok)
}

func TestP1703Simple(t *testing.T) {
	for v, want := range map[val]string{
		fix(0): "0", fix(-5): "-5", fix(10): "10", fix(mostFix): "1152921504606846975", fix(leastFix): "-1152921504606846976",
		imm(0): "()", imm(1): "#f", imm(2): "#t", imm(3): "#!void", imm(4): "#!broken", imm(5): "#!unbound",
		letter(65): "#\\A", letter(33): "#\\!", letter(126): "#\\~", letter(92): "#\\\\", letter(34): "#\\\"", letter(120): "#\\x",
		letter(32): "#\\x20", letter(10): "#\\xA", letter(0): "#\\x0", letter(127): "#\\x7F", letter(0xE9): "#\\xE9", letter(0xABCD): "#\\xABCD", letter(0x10FFFF): "#\\x10FFFF",
	} {
		tells(t, "P1703", graphOf(), v, want, ok)
		if s, f := Value(nil, v); s != want || f != ok {
			t.Errorf("P1703: Value(nil, %v) = %q, %v, want %q", v, s, f, want)
		}
	}
	for n := range 1000 {
		tells(t, "P1703", graphOf(), letter(n), plainSimple(letter(n)), ok)
	}
}

func TestP1703Pairs(t *testing.T) {
	text := rawNode(9, 4, 104, 105)
	for _, x := range []struct {
		nodes []api.Node
		want  string
	}{
		{[]api.Node{pair(1, fix(1), fix(2))}, "(1 . 2)"},
		{[]api.Node{pair(1, fix(1), null)}, "(1)"},
		{[]api.Node{pair(1, null, null)}, "(())"},
		{[]api.Node{pair(1, fix(1), imm(1))}, "(1 . #f)"},
		{[]api.Node{pair(1, fix(1), fix(0))}, "(1 . 0)"},
		{[]api.Node{pair(1, fix(1), letter(0))}, "(1 . #\\x0)"},
		{[]api.Node{pair(1, fix(1), ref(2)), pair(2, fix(2), null)}, "(1 2)"},
		{[]api.Node{pair(1, fix(1), ref(2)), pair(2, fix(2), fix(3))}, "(1 2 . 3)"},
		{[]api.Node{pair(1, fix(1), ref(2)), pair(2, ref(3), ref(4)), pair(3, fix(5), fix(6)), pair(4, imm(2), ref(9)), text}, "(1 (5 . 6) #t . \"hi\")"},
		{[]api.Node{pair(1, ref(2), ref(3)), pair(2, ref(9), null), box(3, fix(2)), text}, "((\"hi\") . #&2)"},
		{[]api.Node{pair(1, fix(1), ref(2)), vector(2, fix(2), fix(3))}, "(1 . #(2 3))"},
		{[]api.Node{pair(1, fix(1), ref(0)), pair(0, fix(2), null)}, "(1 2)"},
		{[]api.Node{box(1, ref(2)), vector(2, ref(3), fix(4)), pair(3, fix(5), null)}, "#&#((5) 4)"},
	} {
		tells(t, "P1703", graphOf(x.nodes...), ref(1), x.want, ok)
	}
}

func TestP1703Leaves(t *testing.T) {
	for _, x := range []struct {
		n    api.Node
		want string
	}{
		{rawNode(1, 4), "\"\""},
		{rawNode(1, 4, 97, 34, 10), "\"a\\\"\\x0A;\""},
		{rawNode(1, 4, 92, 32, 126, 127, 31, 255, 0), "\"\\\\ ~\\x7F;\\x1F;\\xFF;\\x00;\""},
		{rawNode(1, 4, 256+65, -256+66, 512+34, -1, 1<<62+67, greatest, least+92), "\"AB\\\"\\xFF;C\\xFF;\\\\\""},
		{rawNode(1, 5, 0x3FF8000000000000), "#fl:3FF8000000000000"},
		{rawNode(1, 5), "#fl:0000000000000000"},
		{rawNode(1, 5, 0xABC, 7), "#fl:0000000000000ABC"},
		{rawNode(1, 5, -1), "#fl:FFFFFFFFFFFFFFFF"},
		{rawNode(1, 5, least), "#fl:8000000000000000"},
		{rawNode(1, 6, 3), "#<closure 3>"},
		{rawNode(1, 6), "#<closure 0>"},
		{rawNode(1, 6, -12, 5), "#<closure -12>"},
		{rawNode(1, 6, greatest), "#<closure 9223372036854775807>"},
		{rawNode(1, 7), "#<continuation>"},
		{rawNode(1, 8), "#<weak>"},
		{rawNode(1, 9), "#<ephemeron>"},
		{rawNode(1, 10), "#<table>"},
		{rawNode(1, 11, 1, 2, 3), "#<frame>"},
		{rawNode(1, 12), "#<object>"},
		{rawNode(1, 13), "#<object>"},
		{rawNode(1, 14), "#<object>"},
		{rawNode(1, 0), "#<object>"},
		{rawNode(1, -1), "#<object>"},
		{rawNode(1, greatest), "#<object>"},
	} {
		tells(t, "P1703", graphOf(x.n), ref(1), x.want, ok)
	}
	for b := -300; b < 600; b++ {
		n := rawNode(1, 4, b)
		tells(t, "P1703", graphOf(n), ref(1), plainLeaf(n), ok)
	}
}

func TestP1704Nodes(t *testing.T) {
	missing := api.Fault{Err: api.ErrRef}
	tells(t, "P1704", graphOf(), ref(1), "", missing)
	tells(t, "P1704", graphOf(), ref(0), "", missing)
	tells(t, "P1704", graphOf(box(1, ref(2))), ref(1), "", missing)
	tells(t, "P1704", graphOf(box(1, fix(1)), box(1, fix(2))), ref(1), "#&1", ok)
	tells(t, "P1704", graphOf(box(5, ref(3)), box(3, fix(1)), box(5, fix(2)), box(3, val{})), ref(5), "#&#&1", ok)
	tells(t, "P1704", graphOf(box(-1, null), box(0, fix(7)), box(mostFix, ref(0)), box(0, fix(8))), ref(mostFix), "#&#&7", ok)
	// No root is asked for: the graph may be one that chapter 10 refuses.
	g := graphOf(box(2, fix(3)), pair(1, ref(2)))
	g.Roots = list{ref(9), {}}
	tells(t, "P1704", g, ref(1), "(#&3)", ok)
}

// The graph's heap itself tells what is no reference, and no node.
func TestP1704WhatIsNoReference(t *testing.T) {
	h := nodes{[]api.Node{box(1, null)}, map[int]int{1: 0}}
	for _, v := range []val{fix(1), imm(1), letter(1), {}, ref(2), ref(-1)} {
		if n, f := h.Node(v); f != (api.Fault{Err: api.ErrRef}) || !sameNode(n, api.Node{}) {
			t.Errorf("P1704: Node(%v) = %v, %v", v, n, f)
		}
	}
}
