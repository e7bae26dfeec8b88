package table

import (
	"hearth/api"
	"hearth/hash"
	"hearth/layout"
)

// PutNeeds tells the sizes of the objects that a put would make, in their order.
func (h *Heap) PutNeeds(t, k api.Value) (sizes []int, fault api.Fault) {
	defer func() { fault = caught(recover()) }()
	h = h.self()
	x := h.reach(t, k)
	if leads(h.walk(x, k).to) {
		return nil, api.Fault{}
	}
	return h.needs(x), api.Fault{}
}

// grows tells whether a table gets a new spine ahead of a new key.
func (h *Heap) grows(t opened) bool { return hash.Grows(h.count(t.table), t.heads) }

// needs are the sizes of the objects that a new key asks for.
func (h *Heap) needs(t opened) []int {
	entry, _ := layout.Size(api.KindEntry, 0)
	if !h.grows(t) {
		return []int{entry}
	}
	spine, _ := layout.Size(api.KindSpine, hash.Heads(t.heads))
	return []int{spine, entry}
}

// TablePut puts a value at a key.
func (h *Heap) TablePut(t, k, v api.Value) (fault api.Fault) {
	defer func() { fault = caught(recover()) }()
	h = h.self()
	x := h.reach(t, k, v)
	l := h.walk(x, k)
	if leads(l.to) {
		h.set(l.to, valueWord, v)
	} else {
		h.add(x, k, v)
	}
	return api.Fault{}
}

// add puts a value at a key that is not there. All that may be wrong is read, and both objects are made, ahead of the first word that is written.
func (h *Heap) add(t opened, k, v api.Value) {
	var all met
	grows := h.grows(t)
	if grows {
		all = rows(t.spine, t.heads, h.get)
	}
	want(h.Fits(h.needs(t)...), api.ErrFull)
	if grows {
		t.heads = hash.Heads(t.heads)
		t.spine = h.made(api.KindSpine, t.heads, t.serial)
	}
	e := h.made(api.KindEntry, 0, t.serial)
	h.relink(t, all)
	h.set(t.table, spineWord, t.spine)
	h.set(e, keyWord, k)
	h.set(e, valueWord, v)
	h.insert(t, k, e)
	h.setCount(t.table, h.count(t.table)+1)
}
