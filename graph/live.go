package graph

import (
	"hearth/api"
	"hearth/value"
)

// worklist is what is still to be looked at; what is put there again is not looked at again.
type worklist[T comparable] struct {
	met  map[T]struct{}
	rest []T
}

// put puts a thing there, unless it was there before.
func (w *worklist[T]) put(x T) {
	if w.has(x) {
		return
	}
	if w.met == nil {
		w.met = make(map[T]struct{})
	}
	w.met[x] = struct{}{}
	w.rest = append(w.rest, x)
}

// has tells whether a thing was ever put there.
func (w *worklist[T]) has(x T) bool {
	_, ok := w.met[x]
	return ok
}

// take takes a thing that is still to be looked at; false: there is none.
func (w *worklist[T]) take() (T, bool) {
	var x T
	if len(w.rest) == 0 {
		return x, false
	}
	last := len(w.rest) - 1
	x, w.rest = w.rest[last], w.rest[:last]
	return x, true
}

// search is how far the search for what lives has come: the Ids that were reached, and by the Ids of keys that were not what waits for them.
type search struct {
	found   worklist[int]
	waiting map[int][]api.Value
}

// reach finds the Ids of the nodes that live, from these roots on.
func (h *Heap) reach(roots []api.Value) map[int]struct{} {
	s := &search{waiting: make(map[int][]api.Value)}
	s.meet(roots)
	for id, ok := s.found.take(); ok; id, ok = s.found.take() {
		s.look(h.nodes[id])
		s.meet(s.waiting[id])
		delete(s.waiting, id)
	}
	return s.found.met
}

// meet reaches what these values refer to.
func (s *search) meet(list []api.Value) {
	for _, v := range list {
		if v.Kind == api.ValRef {
			s.found.put(v.N)
		}
	}
}

// look goes on from a node that was reached.
func (s *search) look(n *node) {
	strong := n.fields
	switch n.kind {
	case api.KindEph:
		s.guard(n.fields[0], n.fields[1])
	case api.KindTable:
		for k, v := range n.entries {
			s.guard(k, v)
		}
	case api.KindWeak:
		strong = strong[1:]
		fallthrough // but for its car it is as all others
	default:
		s.meet(strong)
	}
}

// guard reaches what a value refers to, once its key is reached.
func (s *search) guard(k, v api.Value) {
	if k.Kind == api.ValRef && !s.found.has(k.N) {
		s.waiting[k.N] = append(s.waiting[k.N], v)
		return
	}
	s.meet([]api.Value{v})
}

// collect keeps what lives, from these roots on.
func (h *Heap) collect(roots []api.Value) api.Report {
	live := h.reach(roots)
	gone := func(v api.Value) bool {
		_, ok := live[v.N]
		return v.Kind == api.ValRef && !ok
	}
	report := api.Report{}
	for id, n := range h.nodes {
		if _, ok := live[id]; !ok {
			delete(h.nodes, id)
			report.Freed++
			continue
		}
		report.Kept++
		n.forget(gone, &report)
	}
	return report
}

// forget takes out of a node that lives what it holds weakly and what is gone. Its fields become a new list, since the old one may be a graph's that was handed in.
func (n *node) forget(gone func(api.Value) bool, report *api.Report) {
	broken := value.Imm(api.ImmBroken)
	switch {
	case n.kind == api.KindWeak && gone(n.fields[0]):
		n.fields = []api.Value{broken, n.fields[1]}
		report.Broken++
	case n.kind == api.KindEph && gone(n.fields[0]):
		n.fields = []api.Value{broken, broken}
		report.Cleared++
	}
	for k := range n.entries {
		if gone(k) {
			delete(n.entries, k)
			report.Pruned++
		}
	}
}
