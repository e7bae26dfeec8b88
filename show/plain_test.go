package show

import (
	"fmt"
	"math/rand"
	"slices"
	"strings"
	"testing"

	"hearth/api"
)

const (
	greatest = 1<<63 - 1
	least    = -1 << 63
	mostFix  = 1<<60 - 1
	leastFix = -1 << 60
)

type (
	val  = api.Value
	list = []api.Value
)

var (
	null = val{Kind: 3, N: 0}
	ok   = api.Fault{}
)

func fix(n int) val    { return val{Kind: 1, N: n} }
func ref(n int) val    { return val{Kind: 2, N: n} }
func imm(n int) val    { return val{Kind: 3, N: n} }
func letter(n int) val { return val{Kind: 4, N: n} }

func node(id, kind int, fields ...val) api.Node {
	return api.Node{Id: id, Kind: kind, Fields: fields}
}

func pair(id int, fields ...val) api.Node   { return node(id, 1, fields...) }
func box(id int, fields ...val) api.Node    { return node(id, 2, fields...) }
func vector(id int, fields ...val) api.Node { return node(id, 3, fields...) }

func rawNode(id, kind int, raw ...int) api.Node { return api.Node{Id: id, Kind: kind, Raw: raw} }

func graphOf(nodes ...api.Node) api.Graph { return api.Graph{Nodes: nodes} }

// many is a value so many times.
func many(v val, n int) list { return slices.Repeat(list{v}, n) }

func copyNode(n api.Node) api.Node {
	n.Raw, n.Fields, n.Entries = slices.Clone(n.Raw), slices.Clone(n.Fields), slices.Clone(n.Entries)
	return n
}

func copyGraph(g api.Graph) api.Graph {
	var nodes []api.Node
	for _, n := range g.Nodes {
		nodes = append(nodes, copyNode(n))
	}
	return api.Graph{Nodes: nodes, Roots: slices.Clone(g.Roots)}
}

func sameNode(a, b api.Node) bool {
	return a.Id == b.Id && a.Kind == b.Kind && slices.Equal(a.Raw, b.Raw) && slices.Equal(a.Fields, b.Fields) && slices.Equal(a.Entries, b.Entries)
}

func sameGraph(a, b api.Graph) bool {
	return slices.EqualFunc(a.Nodes, b.Nodes, sameNode) && slices.Equal(a.Roots, b.Roots)
}

// tells tells a fault, if Graph does not tell just this, or the chapter's words do not.
func tells(t testing.TB, promise string, g api.Graph, v val, want string, fault api.Fault) {
	t.Helper()
	old := copyGraph(g)
	if got, f := Graph(g, v); got != want || f != fault {
		t.Errorf("%s: Graph(%v, %v) = %q, %v, want %q, %v", promise, g, v, got, f, want, fault)
	}
	if got, f, _ := plainShow(plainNodes(g), v); got != want || f != fault {
		t.Errorf("%s: the plain text of %v in %v is %q, %v, want %q, %v", promise, v, g, got, f, want, fault)
	}
	if !sameGraph(old, g) {
		t.Errorf("P1704: Graph has changed the graph of %v", v)
	}
}

// asker is what tells nodes, as a function.
type asker func(v val) (api.Node, api.Fault)

func (a asker) Node(v val) (api.Node, api.Fault) { return a(v) }

func plainNodes(g api.Graph) asker {
	return func(v val) (api.Node, api.Fault) {
		for _, n := range g.Nodes {
			if n.Id == v.N {
				return n, ok
			}
		}
		return api.Node{}, api.Fault{Err: 30}
	}
}

// plain is a walk and a text as the chapter's words have them, by lists alone and by calls of itself.
type plain struct {
	refs   list       // all references that were met, in their order, each once
	nodes  []api.Node // theirs
	times  []int
	labels []val // the containers that have one
	told   list
}

func (p *plain) values(n api.Node) list {
	two := append(slices.Clone(n.Fields), null, null)
	switch n.Kind {
	case 1:
		return two[:2]
	case 2:
		return two[:1]
	case 3:
		return n.Fields
	}
	return nil
}

// plainShow tells the text, the fault, and which references were asked for.
func plainShow(h asker, v val) (string, api.Fault, list) {
	p := &plain{}
	stack, count := list{v}, 0
	for len(stack) > 0 {
		v := stack[0]
		stack = stack[1:]
		count++
		if count > 500 {
			return "#<large>", ok, p.refs
		}
		if !plainValid(v) {
			return "", api.Fault{Err: 33}, p.refs
		}
		if v.Kind != 2 {
			continue
		}
		at := slices.Index(p.refs, v)
		if at < 0 {
			at = len(p.refs)
			n, f := h(v)
			p.refs = append(p.refs, v)
			if f.Err != 0 {
				return "", f, p.refs
			}
			p.nodes, p.times = append(p.nodes, copyNode(n)), append(p.times, 0)
			stack = append(slices.Clone(p.values(n)), stack...)
		}
		p.times[at]++
		if p.nodes[at].Kind == 4 {
			count += len(p.nodes[at].Raw)
		}
		if count > 500 {
			return "#<large>", ok, p.refs
		}
	}
	for i, r := range p.refs {
		if p.nodes[i].Kind <= 3 && p.nodes[i].Kind >= 1 && p.times[i] > 1 {
			p.labels = append(p.labels, r)
		}
	}
	return p.text(v), ok, p.refs
}

func plainValid(v val) bool {
	switch v.Kind {
	case 1:
		return v.N >= leastFix && v.N <= mostFix
	case 2:
		return v.N >= 0 && v.N <= mostFix
	case 3:
		return v.N >= 0 && v.N <= 5
	case 4:
		return v.N >= 0 && v.N <= 0x10FFFF && (v.N < 0xD800 || v.N > 0xDFFF)
	}
	return false
}

func (p *plain) text(v val) string {
	if v.Kind != 2 {
		return plainSimple(v)
	}
	n := p.nodes[slices.Index(p.refs, v)]
	ahead := ""
	if label := slices.Index(p.labels, v); label >= 0 {
		if slices.Contains(p.told, v) {
			return fmt.Sprintf("#%d#", label)
		}
		p.told = append(p.told, v)
		ahead = fmt.Sprintf("#%d=", label)
	}
	return ahead + p.form(n)
}

func (p *plain) form(n api.Node) string {
	values := p.values(n)
	switch n.Kind {
	case 1:
		return "(" + p.text(values[0]) + p.rest(values[1]) + ")"
	case 2:
		return "#&" + p.text(values[0])
	case 3:
		var parts []string
		for _, v := range values {
			parts = append(parts, p.text(v))
		}
		return "#(" + strings.Join(parts, " ") + ")"
	}
	return plainLeaf(n)
}

func (p *plain) rest(v val) string {
	if v == null {
		return ""
	}
	if at := slices.Index(p.refs, v); v.Kind == 2 && p.nodes[at].Kind == 1 && !slices.Contains(p.labels, v) {
		values := p.values(p.nodes[at])
		return " " + p.text(values[0]) + p.rest(values[1])
	}
	return " . " + p.text(v)
}

func plainSimple(v val) string {
	switch v.Kind {
	case 1:
		return fmt.Sprint(v.N)
	case 3:
		return []string{"()", "#f", "#t", "#!void", "#!broken", "#!unbound"}[v.N]
	}
	if v.N >= 33 && v.N <= 126 {
		return fmt.Sprintf("#\\%c", v.N)
	}
	return fmt.Sprintf("#\\x%X", v.N)
}

func plainLeaf(n api.Node) string {
	first := append(slices.Clone(n.Raw), 0)[0]
	switch n.Kind {
	case 4:
		s := ""
		for _, b := range n.Raw {
			switch b = (b%256 + 256) % 256; {
			case b == 34 || b == 92:
				s += fmt.Sprintf("\\%c", b)
			case b >= 32 && b <= 126:
				s += fmt.Sprintf("%c", b)
			default:
				s += fmt.Sprintf("\\x%02X;", b)
			}
		}
		return "\"" + s + "\""
	case 5:
		return fmt.Sprintf("#fl:%016X", uint64(first))
	case 6:
		return fmt.Sprintf("#<closure %d>", first)
	case 7, 8, 9, 10, 11:
		return "#<" + []string{"continuation", "weak", "ephemeron", "table", "frame"}[n.Kind-7] + ">"
	}
	return "#<object>"
}

// past makes graphs without a rule.
type past struct{ source *rand.Rand }

func (x past) value(ids, wrong int) val {
	switch n := x.source.Intn(20); {
	case n < 14:
		return ref(1 + x.source.Intn(ids))
	case n < 16:
		return fix(x.source.Intn(2000) - 1000)
	case n < 18:
		return imm(x.source.Intn(6))
	case n < 19 || x.source.Intn(100) >= wrong:
		return letter(x.source.Intn(300))
	}
	return []val{{}, {Kind: 2, N: -1}, {Kind: 2, N: ids + 1}, {Kind: 3, N: 6}, {Kind: 4, N: 0xD800}, {Kind: 1, N: 1 << 60}, {Kind: 5, N: 1}}[x.source.Intn(7)]
}

func (x past) node(id, ids, wrong int) api.Node {
	n := api.Node{Id: id, Kind: 1 + x.source.Intn(3)}
	fields := []int{2, 1, x.source.Intn(9)}[n.Kind-1]
	if x.source.Intn(5) == 0 {
		n.Kind, fields = x.source.Intn(16)-1, x.source.Intn(4)
		for range x.source.Intn(12) {
			n.Raw = append(n.Raw, x.source.Intn(1000)-500)
		}
	}
	for range fields {
		n.Fields = append(n.Fields, x.value(ids, wrong))
	}
	return n
}

// graph is one of so many nodes; of a hundred chances for a wrong value so many are taken.
func (x past) graph(ids, wrong int) api.Graph {
	var g api.Graph
	for i := range ids {
		g.Nodes = append(g.Nodes, x.node(1+i, ids, wrong))
	}
	return g
}
