package table

import (
	"cmp"
	"slices"

	"hearth/api"
	"hearth/layout"
	"hearth/value"
)

// Where the raw parts of floats and frames stand among their words.
const (
	bitsWord   = 1
	pcWord     = 3
	sharedWord = 4
)

// look looks at words without giving up, and remembers the least index of a wrong one; -1: there was none.
type look struct {
	heap  *Heap
	wrong int
}

// note remembers a wrong word.
func (l *look) note(at int) {
	if l.wrong < 0 || at < l.wrong {
		l.wrong = at
	}
}

// fault is what is to be told of all that was looked at.
func (l *look) fault() api.Fault {
	if l.wrong < 0 {
		return api.Fault{}
	}
	return api.Fault{Err: api.ErrCorrupt, At: l.wrong}
}

// get is the field at an object's word i; a wrong one counts as nil, since it leads nowhere. The header is looked at too, and if it is wrong the field is read all the same.
func (l *look) get(v api.Value, i int) api.Value {
	if l.heap.Check(v.N).Err != api.OK {
		l.note(v.N)
	}
	w, _ := l.heap.Peek(v.N + i)
	if !l.heap.Right(v.N, i, w) {
		l.note(v.N + i)
		return value.Imm(api.ImmNil)
	}
	x, _ := value.Read(w)
	return x
}

// Node tells the object that a value refers to as a node.
func (h *Heap) Node(v api.Value) (n api.Node, fault api.Fault) {
	defer func() { fault = caught(recover()) }()
	h = h.self()
	b, fault := h.Open(v)
	fail(fault)
	want(layout.Numbered(b.Kind), api.ErrKind)
	l := look{heap: h, wrong: -1}
	out := api.Node{Id: b.Serial, Kind: b.Kind, Raw: h.numbers(b), Fields: l.fields(b), Entries: l.entries(b)}
	fail(l.fault())
	return out, api.Fault{}
}

// numbers are the raw numbers of an object as a node.
func (h *Heap) numbers(b api.Block) []int {
	switch b.Kind {
	case api.KindText:
		return h.bytes(b)
	case api.KindFlo:
		return []int{h.raw(b, bitsWord)}
	case api.KindClosure:
		return []int{b.Tag}
	case api.KindFrame:
		return []int{b.Tag, h.raw(b, pcWord), h.raw(b, sharedWord)}
	}
	return nil
}

// raw is an object's raw word i.
func (h *Heap) raw(b api.Block, i int) int {
	w, _ := h.Peek(b.At + i)
	return w
}

// bytes are a text's bytes, as numbers.
func (h *Heap) bytes(b api.Block) []int {
	text, fault := h.Text(value.Ref(b.At))
	fail(fault)
	out := make([]int, len(text))
	for i, c := range text {
		out[i] = int(c)
	}
	return out
}

// fields are the fields of an object as a node: a table has none, its spine is its own affair.
func (l *look) fields(b api.Block) []api.Value {
	if b.Kind == api.KindTable {
		return nil
	}
	words := layout.Fields(b.Kind, b.Size)
	out := make([]api.Value, len(words))
	for i, word := range words {
		out[i] = l.get(value.Ref(b.At), word)
	}
	return out
}

// entries are the entries of an object as a node: a table's, by their keys, of one key by their places.
func (l *look) entries(b api.Block) []api.Entry {
	if b.Kind != api.KindTable {
		return nil
	}
	all := l.rows(value.Ref(b.At))
	places := all.falling()
	slices.SortFunc(places, func(a, b int) int {
		return cmp.Or(order(l.heap.named(all[a].key), l.heap.named(all[b].key)), cmp.Compare(a, b))
	})
	out := make([]api.Entry, len(places))
	for i, at := range places {
		out[i] = api.Entry{Key: all[at].key, Value: l.get(value.Ref(at), valueWord)}
	}
	return out
}

// rows are the entries of a table, as far as right words lead.
func (l *look) rows(t api.Value) met {
	spine := l.get(t, spineWord)
	if !leads(spine) {
		return nil
	}
	b, _ := l.heap.Block(spine.N)
	return rows(spine, b.Size-headWord, l.get)
}

// order is the order of values as the library's sorting asks for it.
func order(a, b api.Value) int {
	switch {
	case value.Less(a, b):
		return -1
	case value.Less(b, a):
		return 1
	}
	return 0
}

// named is a value as a graph has it: a reference by its object's serial.
func (h *Heap) named(v api.Value) api.Value {
	if !leads(v) {
		return v
	}
	return value.Ref(h.serial(v))
}

// Graph tells the whole heap.
func (h *Heap) Graph(roots []api.Value) (g api.Graph, fault api.Fault) {
	defer func() { fault = caught(recover()) }()
	h = h.self()
	for _, v := range roots {
		want(h.rooted(v), api.ErrValue)
	}
	out := api.Graph{Nodes: h.nodes(), Roots: slices.Clone(roots)}
	h.nameAll(out)
	return out, api.Fault{}
}

// rooted tells whether a value may be a root.
func (h *Heap) rooted(v api.Value) bool {
	if !leads(v) {
		return value.Valid(v)
	}
	b, ok := h.Block(v.N)
	return ok && layout.Numbered(b.Kind)
}

// nodes are all objects that have serials as nodes, rising by these. It gives up at the least wrong word that one of them tells.
func (h *Heap) nodes() []api.Node {
	var out []api.Node
	l := look{heap: h, wrong: -1}
	for b := range h.All() {
		if !layout.Numbered(b.Kind) {
			continue
		}
		n, fault := h.Node(value.Ref(b.At))
		if fault.Err != api.OK {
			l.note(fault.At)
		}
		out = append(out, n)
	}
	fail(l.fault())
	slices.SortFunc(out, func(a, b api.Node) int { return cmp.Compare(a.Id, b.Id) })
	return out
}

// nameAll turns places into serials, in the lists of a graph that is not handed out yet.
func (h *Heap) nameAll(g api.Graph) {
	h.nameList(g.Roots)
	for _, n := range g.Nodes {
		h.nameList(n.Fields)
		for i, e := range n.Entries {
			n.Entries[i] = api.Entry{Key: h.named(e.Key), Value: h.named(e.Value)}
		}
	}
}

// nameList turns places into serials.
func (h *Heap) nameList(list []api.Value) {
	for i, v := range list {
		list[i] = h.named(v)
	}
}
