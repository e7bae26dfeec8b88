package table

import (
	"maps"
	"slices"

	"hearth/api"
	"hearth/hash"
	"hearth/value"
)

// link is a word of a row, a head or a chain: in which object it stands, and where it leads.
type link struct {
	from api.Value
	word int
	to   api.Value
}

// link reads a word of a row.
func (h *Heap) link(from api.Value, word int) link {
	return link{from, word, h.get(from, word)}
}

// next is the chain of the entry to which a link leads.
func (h *Heap) next(l link) link { return h.link(l.to, chainWord) }

// head is the head to which a key belongs, of a table with a spine.
func (h *Heap) head(t opened, k api.Value) link {
	slot := hash.Slot(hash.Of(k, h.serial(k)), t.heads)
	return h.link(t.spine, headWord+slot)
}

// serial is that of the object to which a key refers; 0, if it refers to none.
func (h *Heap) serial(k api.Value) int {
	if !leads(k) {
		return 0
	}
	b, _ := h.Block(k.N)
	return b.Serial
}

// walk is the link that leads to the entry of a key; one that leads nowhere, if there is no such entry.
func (h *Heap) walk(t opened, k api.Value) link {
	if t.heads == 0 {
		return link{}
	}
	l := h.head(t, k)
	for leads(l.to) && h.get(l.to, keyWord) != k {
		l = h.next(l)
	}
	return l
}

// insert links an entry into the row of its key, where its place belongs: places rise along a row.
func (h *Heap) insert(t opened, k, entry api.Value) {
	l := h.head(t, k)
	for leads(l.to) && l.to.N < entry.N {
		l = h.next(l)
	}
	h.splice(l, entry)
}

// splice lets a link lead to an entry, and the entry to where the link has led.
func (h *Heap) splice(l link, entry api.Value) {
	h.set(entry, chainWord, l.to)
	h.set(l.from, l.word, entry)
}

// entry is an entry to which a row has come.
type entry struct{ key, chain api.Value }

// met are the entries to which the rows of a table have come, by their places.
type met map[int]entry

// rows goes through all rows, head by head. What reads a word is handed in: it gives up at a wrong one, or has it lead nowhere. An entry that was come to before is not gone through again: its row's end is known.
func rows(spine api.Value, heads int, read func(v api.Value, i int) api.Value) met {
	all := met{}
	for i := range heads {
		e := read(spine, headWord+i)
		for leads(e) && !all.has(e.N) {
			now := entry{key: read(e, keyWord), chain: read(e, chainWord)}
			all[e.N] = now
			e = now.chain
		}
	}
	return all
}

// has tells whether there is an entry at a place.
func (m met) has(at int) bool {
	_, ok := m[at]
	return ok
}

// falling are the places of the entries, the greatest one first: whatever a chain leads to stands ahead of its entry.
func (m met) falling() []int {
	places := slices.Sorted(maps.Keys(m))
	slices.Reverse(places)
	return places
}

// relink links entries into the rows of a new spine. The greatest place goes first, so each entry comes to stand at the beginning of its row.
func (h *Heap) relink(t opened, all met) {
	for _, at := range all.falling() {
		h.splice(h.head(t, all[at].key), value.Ref(at))
	}
}
