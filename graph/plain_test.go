package graph

import (
	"slices"

	"hearth/api"
)

const (
	greatest = 1<<63 - 1
	least    = -1 << 63
)

var (
	null   = api.Value{Kind: 3, N: 0}
	void   = api.Value{Kind: 3, N: 3}
	broken = api.Value{Kind: 3, N: 4}
)

func fixnum(n int) api.Value { return api.Value{Kind: 1, N: n} }

func ref(id int) api.Value { return api.Value{Kind: 2, N: id} }

func char(n int) api.Value { return api.Value{Kind: 4, N: n} }

func no(errno api.Errno) api.Fault { return api.Fault{Err: errno} }

// cell is a node with fields alone.
func cell(id, kind int, fields ...api.Value) api.Node {
	return api.Node{Id: id, Kind: kind, Fields: fields}
}

// closure is a closure's node.
func closure(id, function int, captured ...api.Value) api.Node {
	return api.Node{Id: id, Kind: 6, Raw: []int{function}, Fields: captured}
}

// frame is a frame's node.
func frame(id, function int, link, own api.Value, slots ...api.Value) api.Node {
	return api.Node{Id: id, Kind: 11, Raw: []int{function, 7, 0}, Fields: append([]api.Value{link, own}, slots...)}
}

// table is a table's node: a key, its value, a key, its value, ..
func table(id int, all ...api.Value) api.Node {
	n := api.Node{Id: id, Kind: 10}
	for i := 0; i+1 < len(all); i += 2 {
		n.Entries = append(n.Entries, api.Entry{Key: all[i], Value: all[i+1]})
	}
	return n
}

func of(nodes ...api.Node) api.Graph { return api.Graph{Nodes: nodes} }

func rooted(g api.Graph, roots ...api.Value) api.Graph {
	g.Roots = roots
	return g
}

// repeat is a list of one value, again and again.
func repeat(x api.Value, n int) []api.Value { return slices.Repeat([]api.Value{x}, n) }

// numbers are the least and the greatest numbers of raw numbers and of fields of each kind, as the table of P1001 has them.
var numbers = [12][4]int{
	1: {0, 0, 2, 2}, 2: {0, 0, 1, 1}, 3: {0, 0, 0, 1023}, 4: {0, 4096, 0, 0}, 5: {1, 1, 0, 0}, 6: {1, 1, 0, 64},
	7: {0, 0, 1, 1}, 8: {0, 0, 2, 2}, 9: {0, 0, 2, 2}, 10: {0, 0, 0, 0}, 11: {3, 3, 2, 130},
}

// found is the node with an Id, nil if there is none.
func found(list []api.Node, id int) *api.Node {
	for i := range list {
		if list[i].Id == id {
			return &list[i]
		}
	}
	return nil
}

// validPlain tells whether a value is valid, as chapter 2 has it.
func validPlain(v api.Value) bool {
	switch v.Kind {
	case 1:
		return v.N >= -1<<60 && v.N < 1<<60
	case 2:
		return v.N >= 0 && v.N < 1<<60
	case 3:
		return v.N >= 0 && v.N <= 5
	}
	return v.Kind == 4 && v.N >= 0 && v.N <= 0x10FFFF && (v.N < 0xD800 || v.N > 0xDFFF)
}

// refersPlain is the node to which a value refers.
func refersPlain(list []api.Node, v api.Value) *api.Node {
	if v.Kind != 2 || !validPlain(v) {
		return nil
	}
	return found(list, v.N)
}

func plainValue(list []api.Node, v api.Value) bool {
	to := refersPlain(list, v)
	return validPlain(v) && (v.Kind != 2 || to != nil && to.Kind <= 10)
}

func rootPlain(list []api.Node, v api.Value) bool {
	return validPlain(v) && (v.Kind != 2 || refersPlain(list, v) != nil)
}

// mayPlain tells whether a value may stand in a node's field k.
func mayPlain(list []api.Node, n api.Node, k int, v api.Value) bool {
	to := refersPlain(list, v)
	if n.Kind == 7 || n.Kind == 11 && k == 0 {
		return v == null || to != nil && to.Kind == 11
	}
	if n.Kind == 11 && k == 1 {
		return v == null || to != nil && to.Kind == 6 && to.Raw[0] == n.Raw[0]
	}
	return plainValue(list, v)
}

func lessPlain(a, b api.Value) bool { return a.Kind < b.Kind || a.Kind == b.Kind && a.N < b.N }

func countsPlain(n api.Node) bool {
	if n.Kind < 1 || n.Kind > 11 || n.Kind != 10 && len(n.Entries) > 0 {
		return false
	}
	c := numbers[n.Kind]
	return len(n.Raw) >= c[0] && len(n.Raw) <= c[1] && len(n.Fields) >= c[2] && len(n.Fields) <= c[3]
}

func checkPlain(g api.Graph) bool {
	for i, n := range g.Nodes {
		if n.Id < 1 || i > 0 && n.Id <= g.Nodes[i-1].Id || !countsPlain(n) {
			return false
		}
		for _, b := range n.Raw {
			if n.Kind == 4 && (b < 0 || b > 255) {
				return false
			}
		}
	}
	for _, n := range g.Nodes {
		for k, v := range n.Fields {
			if !mayPlain(g.Nodes, n, k, v) {
				return false
			}
		}
		for i, e := range n.Entries {
			if !plainValue(g.Nodes, e.Key) || !plainValue(g.Nodes, e.Value) || i > 0 && !lessPlain(n.Entries[i-1].Key, e.Key) {
				return false
			}
		}
	}
	for _, v := range g.Roots {
		if !rootPlain(g.Nodes, v) {
			return false
		}
	}
	return true
}

// livePlain is the least set, grown until nothing is added.
func livePlain(g api.Graph) map[int]bool {
	live := map[int]bool{}
	add := func(v api.Value) {
		if v.Kind == 2 {
			live[v.N] = true
		}
	}
	for _, v := range g.Roots {
		add(v)
	}
	for size := -1; size != len(live); {
		size = len(live)
		for _, n := range g.Nodes {
			if !live[n.Id] {
				continue
			}
			pairs := n.Entries
			for k, v := range n.Fields {
				if n.Kind != 9 && (n.Kind != 8 || k != 0) {
					add(v)
				}
			}
			if n.Kind == 9 {
				pairs = []api.Entry{{Key: n.Fields[0], Value: n.Fields[1]}}
			}
			for _, e := range pairs {
				if e.Key.Kind != 2 || live[e.Key.N] {
					add(e.Value)
				}
			}
		}
	}
	return live
}

func collectPlain(g api.Graph) (api.Graph, api.Report) {
	live := livePlain(g)
	gone := func(v api.Value) bool { return v.Kind == 2 && !live[v.N] }
	out, r := api.Graph{Roots: slices.Clone(g.Roots)}, api.Report{}
	for _, n := range g.Nodes {
		if !live[n.Id] {
			r.Freed++
			continue
		}
		r.Kept++
		n = copied(n)
		if n.Kind == 8 && gone(n.Fields[0]) {
			n.Fields[0] = broken
			r.Broken++
		}
		if n.Kind == 9 && gone(n.Fields[0]) {
			n.Fields[0], n.Fields[1] = broken, broken
			r.Cleared++
		}
		var kept []api.Entry
		for _, e := range n.Entries {
			if gone(e.Key) {
				r.Pruned++
			} else {
				kept = append(kept, e)
			}
		}
		n.Entries = kept
		out.Nodes = append(out.Nodes, n)
	}
	return out, r
}

func copied(n api.Node) api.Node {
	n.Raw, n.Fields, n.Entries = slices.Clone(n.Raw), slices.Clone(n.Fields), slices.Clone(n.Entries)
	return n
}

// same tells whether two graphs are one; nil and empty are.
func same(a, b api.Graph) bool {
	if len(a.Nodes) != len(b.Nodes) || !slices.Equal(a.Roots, b.Roots) {
		return false
	}
	for i := range a.Nodes {
		if !alike(a.Nodes[i], b.Nodes[i]) {
			return false
		}
	}
	return true
}

// alike tells whether two nodes are one.
func alike(a, b api.Node) bool {
	return a.Id == b.Id && a.Kind == b.Kind && slices.Equal(a.Raw, b.Raw) && slices.Equal(a.Fields, b.Fields) && slices.Equal(a.Entries, b.Entries)
}

// wild are numbers far from all Ids, kinds and words' numbers; some look like small ones if their upper bits are lost.
func wild() []int {
	return []int{least, least + 1, least + 16, -1 << 61, -1 << 32, 1 - 1<<32, -262144, -64, -3, -2, -1, 262144, 1 << 31, 1<<31 + 1, 1 << 32, 1<<32 + 1, 1<<32 + 3, 1 << 60, 1 << 61, 1<<61 + 1, 1 << 62, greatest - 1, greatest}
}

// strangers are values that are not valid.
func strangers() []api.Value {
	return []api.Value{
		{}, {Kind: 0, N: 1}, {Kind: 5, N: 0}, {Kind: 6, N: 1}, {Kind: -1, N: 0}, {Kind: 1 << 32, N: 0}, {Kind: 1<<32 + 2, N: 1},
		{Kind: 1, N: 1 << 60}, {Kind: 1, N: -1<<60 - 1}, {Kind: 1, N: greatest}, {Kind: 2, N: -1}, {Kind: 2, N: 1 << 60}, {Kind: 2, N: 1 << 61}, {Kind: 2, N: least}, {Kind: 2, N: 1<<61 + 1},
		{Kind: 3, N: 6}, {Kind: 3, N: -1}, {Kind: 4, N: -1}, {Kind: 4, N: 0xD800}, {Kind: 4, N: 0xDFFF}, {Kind: 4, N: 0x110000},
	}
}

// natives are values that are valid without any node.
func natives() []api.Value {
	return []api.Value{
		fixnum(0), fixnum(1), fixnum(-1), fixnum(1<<60 - 1), fixnum(-1 << 60), null, {Kind: 3, N: 1}, {Kind: 3, N: 2}, void, broken, {Kind: 3, N: 5},
		char(0), char(65), char(0xD7FF), char(0xE000), char(0x10FFFF),
	}
}
