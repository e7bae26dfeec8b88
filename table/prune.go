package table

import (
	"hearth/api"
	"hearth/value"
)

// Prune unlinks a table's entries at these places, and tells how many there were.
func (h *Heap) Prune(t api.Value, dead []int) (n int, fault api.Fault) {
	defer func() { fault = caught(recover()) }()
	h = h.self()
	x := h.reach(t)
	all := rows(x.spine, x.heads, h.get)
	gone := all.among(dead)
	to := all.without(gone)
	for i := range x.heads {
		h.lead(x.spine, headWord+i, to)
	}
	for at := range all {
		if !gone.has(at) {
			h.lead(value.Ref(at), chainWord, to)
		}
	}
	h.setCount(t, len(all)-len(gone))
	return len(gone), api.Fault{}
}

// among are the entries at these places, each once.
func (m met) among(places []int) met {
	out := met{}
	for _, at := range places {
		if e, ok := m[at]; ok {
			out[at] = e
		}
	}
	return out
}

// onward tells, by an entry's place, where a word is to lead that refers to it.
type onward map[int]api.Value

// without is where words are to lead once some of the entries are gone. (What stands behind an entry in its row has a greater place, and is known first.)
func (m met) without(gone met) onward {
	to := onward{}
	for _, at := range m.falling() {
		to[at] = value.Ref(at)
		if gone.has(at) {
			to[at] = to.follow(m[at].chain)
		}
	}
	return to
}

// follow is where a word is to lead that has led to e.
func (to onward) follow(e api.Value) api.Value {
	if !leads(e) {
		return e
	}
	return to[e.N]
}

// lead leads a word of a row on.
func (h *Heap) lead(from api.Value, word int, to onward) {
	h.set(from, word, to.follow(h.get(from, word)))
}
