package graph

import (
	"maps"
	"slices"

	"hearth/api"
	"hearth/layout"
	"hearth/value"
)

// node is a node as a heap holds it. Its Id is what the heap finds it by; a table's entries stand by their keys.
type node struct {
	kind    int
	raw     []int
	fields  []api.Value
	entries map[api.Value]api.Value
}

// Where the parts of closures and frames stand among their raw numbers and among their fields.
const (
	funcNumber   = 0
	pcNumber     = 1
	linkField    = 0
	closureField = 1
	slotField    = 2
)

// Where the parts of frames stand among their words.
const (
	pcWord   = 3
	slotWord = 5
)

// form is how many raw numbers and fields a node has that has no parts.
type form struct{ raw, fields int }

// forms is each kind's, at the kind's number. (At 0 there is no kind.)
var forms = [...]form{
	api.KindPair:    {0, 2},
	api.KindBox:     {0, 1},
	api.KindVector:  {0, 0},
	api.KindText:    {0, 0},
	api.KindFlo:     {1, 0},
	api.KindClosure: {1, 0},
	api.KindCont:    {0, 1},
	api.KindWeak:    {0, 2},
	api.KindEph:     {0, 2},
	api.KindTable:   {0, 0},
	api.KindFrame:   {3, 2},
}

// formed tells whether a node of a graph has as many raw numbers, fields and entries as its kind may have. (What its fields and entries are is not looked at.)
func formed(n api.Node) bool {
	if !layout.Numbered(n.Kind) || n.Kind != api.KindTable && len(n.Entries) > 0 {
		return false
	}
	raws, fields := len(n.Raw)-forms[n.Kind].raw, len(n.Fields)-forms[n.Kind].fields
	if n.Kind == api.KindText {
		return fields == 0 && raws <= api.MaxText && !slices.ContainsFunc(n.Raw, noByte)
	}
	_, ok := layout.Size(n.Kind, fields)
	return ok && raws == 0
}

// noByte tells whether a number is none of a byte.
func noByte(n int) bool { return n < 0 || n > 255 }

// hold is a formed node as a heap holds it, over the lists of the node itself.
func hold(n api.Node) *node {
	own := &node{kind: n.Kind, raw: n.Raw, fields: n.Fields}
	if n.Kind == api.KindTable {
		own.entries = make(map[api.Value]api.Value, len(n.Entries))
	}
	for _, e := range n.Entries {
		own.entries[e.Key] = e.Value
	}
	return own
}

// fresh is a new node of a kind with so many parts. It is no text.
func fresh(kind, parts, tag int) *node {
	n := &node{kind: kind, raw: make([]int, forms[kind].raw)}
	n.fields = slices.Repeat([]api.Value{value.Imm(api.ImmVoid)}, forms[kind].fields+parts)
	switch kind {
	case api.KindFrame:
		n.fields[closureField] = value.Imm(api.ImmNil)
		fallthrough // its link begins as a continuation's one field does
	case api.KindCont:
		n.fields[linkField] = value.Imm(api.ImmNil)
	case api.KindTable:
		n.entries = make(map[api.Value]api.Value)
	}
	if n.tagged() {
		n.raw[funcNumber] = tag
	}
	return n
}

// tell is the node with an Id as a graph has it.
func (n *node) tell(id int) api.Node {
	out := api.Node{Id: id, Kind: n.kind, Raw: slices.Clone(n.raw), Fields: slices.Clone(n.fields)}
	if len(n.entries) > 0 { // most nodes are no tables
		for _, k := range slices.SortedFunc(maps.Keys(n.entries), order) {
			out.Entries = append(out.Entries, api.Entry{Key: k, Value: n.entries[k]})
		}
	}
	return out
}

// order is the order of values as the library's sorting asks for it.
func order(a, b api.Value) int {
	switch {
	case value.Less(a, b):
		return -1
	case value.Less(b, a):
		return 1
	}
	return 0
}

// tagged tells whether a node has a function's number.
func (n *node) tagged() bool { return n.kind == api.KindClosure || n.kind == api.KindFrame }

// tag is a node's function's number; 0, if it has none.
func (n *node) tag() int {
	if !n.tagged() {
		return 0
	}
	return n.raw[funcNumber]
}

// size is how many words the object of a node has. (The parts of a text are raw numbers, those of all others fields.)
func (n *node) size() int {
	parts := len(n.raw) - forms[n.kind].raw + len(n.fields) - forms[n.kind].fields
	size, _ := layout.Size(n.kind, parts)
	return size
}

// role is what a node's word i is for; 0: there is no such word here.
func (n *node) role(i int) int {
	if n.kind == api.KindText || n.kind == api.KindTable {
		return 0
	}
	return layout.Role(n.kind, n.size(), i)
}

// field tells which of its fields a node's word i is; false: it is none.
func (n *node) field(i int) (int, bool) {
	role := n.role(i)
	if role == 0 || role == api.RoleRaw {
		return 0, false
	}
	if n.kind == api.KindFrame && i >= slotWord {
		return i - slotWord + slotField, true
	}
	return i - 1, true
}

// number tells which of its raw numbers a node's word i is; false: it is none.
func (n *node) number(i int) (int, bool) {
	if n.role(i) != api.RoleRaw {
		return 0, false
	}
	if n.kind == api.KindFrame {
		return i - pcWord + pcNumber, true
	}
	return i - 1, true
}
