package show

import (
	"slices"

	"hearth/api"
	"hearth/value"
)

// thing is an object that the walk has come to.
type thing struct {
	kind   int
	values []api.Value // what a container holds
	form   string      // how a leaf is told
	bytes  int         // how many a text has
	times  int         // how often the walk has met it
	label  int         // unlabelled: it has none
	told   bool        // its form stands in the text
}

const unlabelled = -1

// container tells whether it is told with what it holds.
func (t *thing) container() bool {
	return t.kind == api.KindPair || t.kind == api.KindBox || t.kind == api.KindVector
}

// walk is a walk over all that is shown.
type walk struct {
	heap   Heap
	met    map[int]int // by the number of a reference: which of the things it is
	things []thing     // in the order in which they were met first
	count  int
}

func (w *walk) tooLarge() bool { return w.count > api.MaxShown }

// thing is what a reference that was met refers to.
func (w *walk) thing(v api.Value) *thing { return &w.things[w.met[v.N]] }

// over goes from v on to all that it holds, until something is wrong or it is too much.
func (w *walk) over(v api.Value) api.Fault {
	stack := []api.Value{v}
	for len(stack) > 0 {
		top := len(stack) - 1
		held, fault := w.meet(stack[top])
		if fault.Err != api.OK || w.tooLarge() {
			return fault
		}
		stack = stack[:top]
		for _, x := range slices.Backward(held) {
			stack = append(stack, x)
		}
	}
	return api.Fault{}
}

// meet counts a value, and answers what it holds, if it is a container that was not met before.
func (w *walk) meet(v api.Value) ([]api.Value, api.Fault) {
	w.count++
	if w.tooLarge() {
		return nil, api.Fault{}
	}
	if !value.Valid(v) {
		return nil, api.Fault{Err: api.ErrValue}
	}
	if v.Kind != api.ValRef {
		return nil, api.Fault{}
	}
	if _, before := w.met[v.N]; !before {
		return w.meetFirst(v)
	}
	t := w.thing(v)
	t.times++
	w.count += t.bytes
	return nil, api.Fault{}
}

// meetFirst looks at what a reference refers to.
func (w *walk) meetFirst(v api.Value) ([]api.Value, api.Fault) {
	node, fault := ask(w.heap, v)
	if fault.Err != api.OK {
		return nil, fault
	}
	t := thing{kind: node.Kind, values: held(node), times: 1}
	if node.Kind == api.KindText {
		t.bytes = len(node.Raw)
		w.count += t.bytes
	}
	if !w.tooLarge() { // else nobody asks how it is told
		t.form = leaf(node)
	}
	w.met[v.N] = len(w.things)
	w.things = append(w.things, t)
	return t.values, api.Fault{}
}

// ask is the node of a reference. A heap that is none, and so panics, has no nodes.
func ask(h Heap, v api.Value) (node api.Node, fault api.Fault) {
	defer func() {
		if recover() != nil {
			node, fault = api.Node{}, api.Fault{Err: api.ErrRef}
		}
	}()
	return h.Node(v)
}

// held is what a container's node holds: as many values as its kind has, nil where the node lacks one. The list is its own, since the heap may write over the node when it is asked for the next one.
func held(node api.Node) []api.Value {
	n := 0
	switch node.Kind {
	case api.KindPair:
		n = 2
	case api.KindBox:
		n = 1
	case api.KindVector: // more than can be shown are never looked at
		n = min(len(node.Fields), api.MaxShown)
	}
	values := make([]api.Value, n)
	for i := copy(values, node.Fields); i < n; i++ {
		values[i] = value.Imm(api.ImmNil)
	}
	return values
}

// label numbers the containers that were met more than once.
func (w *walk) label() {
	next := 0
	for i := range w.things {
		t := &w.things[i]
		t.label = unlabelled
		if t.container() && t.times > 1 {
			t.label = next
			next++
		}
	}
}
