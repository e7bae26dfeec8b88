package graph

import (
	"maps"
	"slices"

	"hearth/api"
	"hearth/layout"
	"hearth/value"
)

// Heap is a heap of nodes.
type Heap struct {
	nodes map[int]*node
	last  int // the Id that was given last
}

// New makes an empty heap.
func New() *Heap { return &Heap{nodes: make(map[int]*node)} }

// self is the heap; nil counts as an empty one, so that no call panics.
func (h *Heap) self() *Heap {
	if h == nil {
		return New()
	}
	return h
}

// fail is the fault of an error. No fault here has a place.
func fail(errno api.Errno) api.Fault { return api.Fault{Err: errno} }

// node is the node of v; nil: there is none.
func (h *Heap) node(v api.Value) *node {
	if v.Kind != api.ValRef || !value.Valid(v) {
		return nil
	}
	return h.self().nodes[v.N]
}

// kind is the kind of the node of v; 0: there is none.
func (h *Heap) kind(v api.Value) int {
	if n := h.node(v); n != nil {
		return n.kind
	}
	return 0
}

// plain tells whether a value may stand wherever a program can put one.
func (h *Heap) plain(x api.Value) bool {
	if x.Kind == api.ValRef {
		return layout.Visible(h.kind(x))
	}
	return value.Valid(x)
}

// may tells whether a value may stand in a node's field k.
func (h *Heap) may(n *node, k int, x api.Value) bool {
	null := x == value.Imm(api.ImmNil)
	switch n.kind {
	case api.KindFrame:
		if k >= slotField {
			break
		}
		if k == closureField {
			return null || h.kind(x) == api.KindClosure && h.node(x).tag() == n.tag()
		}
		fallthrough // its link is what a continuation's one field is
	case api.KindCont:
		return null || h.kind(x) == api.KindFrame
	}
	return h.plain(x)
}

// rooted tells whether all of these are roots.
func (h *Heap) rooted(roots []api.Value) bool {
	for _, v := range roots {
		if v.Kind == api.ValRef && h.node(v) == nil || !value.Valid(v) {
			return false
		}
	}
	return true
}

// add gives a new node the next Id.
func (h *Heap) add(n *node) (api.Value, api.Fault) {
	h = h.self()
	if h.nodes == nil {
		h.nodes = make(map[int]*node)
	}
	h.last++
	h.nodes[h.last] = n
	return value.Ref(h.last), api.Fault{}
}

// Make makes a node of a kind with n parts and a tag.
func (h *Heap) Make(kind, n, tag int) (api.Value, api.Fault) {
	_, ok := layout.Size(kind, n)
	if !ok || !layout.Numbered(kind) || kind == api.KindText {
		return api.Value{}, fail(api.ErrShape)
	}
	return h.add(fresh(kind, n, tag))
}

// Open looks at the node that a value refers to.
func (h *Heap) Open(v api.Value) (api.Block, api.Fault) {
	n := h.node(v)
	if n == nil {
		return api.Block{}, fail(api.ErrRef)
	}
	return api.Block{At: v.N, Kind: n.kind, Size: n.size(), Serial: v.N, Tag: n.tag()}, api.Fault{}
}

// part is the node of v, and which of its parts the word i is; find tells that of a node.
func (h *Heap) part(v api.Value, i int, find func(*node, int) (int, bool)) (*node, int, api.Fault) {
	n := h.node(v)
	if n == nil {
		return nil, 0, fail(api.ErrRef)
	}
	k, ok := find(n, i)
	if !ok {
		return nil, 0, fail(api.ErrField)
	}
	return n, k, api.Fault{}
}

// Get tells the field at a node's word i.
func (h *Heap) Get(v api.Value, i int) (api.Value, api.Fault) {
	n, k, fault := h.part(v, i, (*node).field)
	if fault.Err != api.OK {
		return api.Value{}, fault
	}
	return n.fields[k], api.Fault{}
}

// Set turns the field at a node's word i.
func (h *Heap) Set(v api.Value, i int, x api.Value) api.Fault {
	n, k, fault := h.part(v, i, (*node).field)
	if fault.Err != api.OK {
		return fault
	}
	if !h.may(n, k, x) {
		return fail(api.ErrValue)
	}
	n.fields[k] = x
	return api.Fault{}
}

// Raw tells a node's raw word i.
func (h *Heap) Raw(v api.Value, i int) (int, api.Fault) {
	n, k, fault := h.part(v, i, (*node).number)
	if fault.Err != api.OK {
		return 0, fault
	}
	return n.raw[k], api.Fault{}
}

// SetRaw turns a node's raw word i.
func (h *Heap) SetRaw(v api.Value, i, x int) api.Fault {
	n, k, fault := h.part(v, i, (*node).number)
	if fault.Err != api.OK {
		return fault
	}
	n.raw[k] = x
	return api.Fault{}
}

// MakeText makes a text of bytes.
func (h *Heap) MakeText(b []byte) (api.Value, api.Fault) {
	if len(b) > api.MaxText {
		return api.Value{}, fail(api.ErrShape)
	}
	n := &node{kind: api.KindText, raw: make([]int, len(b))}
	for i, c := range b {
		n.raw[i] = int(c)
	}
	return h.add(n)
}

// Text tells a text's bytes.
func (h *Heap) Text(v api.Value) ([]byte, api.Fault) {
	n := h.node(v)
	if n == nil {
		return nil, fail(api.ErrRef)
	}
	if n.kind != api.KindText {
		return nil, fail(api.ErrKind)
	}
	out := make([]byte, len(n.raw))
	for i, c := range n.raw {
		out[i] = byte(c)
	}
	return out, api.Fault{}
}

// Fits tells whether objects of these sizes could be made: they could.
func (h *Heap) Fits(sizes ...int) bool { return true }

// Node tells the node that a value refers to.
func (h *Heap) Node(v api.Value) (api.Node, api.Fault) {
	n := h.node(v)
	if n == nil {
		return api.Node{}, fail(api.ErrRef)
	}
	return n.tell(v.N), api.Fault{}
}

// Graph tells the whole heap.
func (h *Heap) Graph(roots []api.Value) (api.Graph, api.Fault) {
	if !h.rooted(roots) {
		return api.Graph{}, fail(api.ErrValue)
	}
	return h.self().tell(roots), api.Fault{}
}

// tell is the whole heap with these roots.
func (h *Heap) tell(roots []api.Value) api.Graph {
	out := api.Graph{Nodes: make([]api.Node, 0, len(h.nodes)), Roots: slices.Clone(roots)}
	for _, id := range slices.Sorted(maps.Keys(h.nodes)) {
		out.Nodes = append(out.Nodes, h.nodes[id].tell(id))
	}
	return out
}

// Collect keeps what lives.
func (h *Heap) Collect(roots []api.Value) (api.Report, api.Fault) {
	if !h.rooted(roots) {
		return api.Report{}, fail(api.ErrValue)
	}
	return h.self().collect(roots), api.Fault{}
}
