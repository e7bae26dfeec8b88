package sweep

import (
	"hearth/api"
	"hearth/table"
	"hearth/value"
)

// The words of objects that a sweep goes by.
const (
	carWord   = 1 // of a weak pair
	keyWord   = 1 // of an ephemeron, or an entry
	valueWord = 2 // of an ephemeron
	spineWord = 2 // of a table
	headWord  = 1 // of a spine: the first of its heads
	chainWord = 3 // of an entry
)

// survey is what was found in the tables that are live.
type survey struct {
	heap    *table.Heap
	entries map[int][]int    // by the places of the tables those of their entries that are dead
	met     map[int]struct{} // the places of all entries that rows have come to
	wrong   int              // the least index of a wrong word; -1: there is none
}

// survey goes over the tables that are live.
func (s *sweeping) survey() *survey {
	x := &survey{heap: s.heap, entries: map[int][]int{}, met: map[int]struct{}{}, wrong: -1}
	for _, t := range s.marks.Live {
		if s.live[t] != api.KindTable {
			continue
		}
		x.table(t, func(at int) {
			if s.dead[at] == api.KindEntry {
				x.entries[t] = append(x.entries[t], at)
			}
		})
	}
	return x
}

// table looks at a table, and hands on the entries that its rows come to, each once. What is wrong leads nowhere; a header that is wrong holds up nothing.
func (x *survey) table(t int, meet func(entry int)) {
	x.header(t)
	spine, ok := x.lead(t, spineWord)
	if !ok {
		return
	}
	x.header(spine)
	b, _ := x.heap.Block(spine)
heads:
	for i := headWord; i < b.Size; i++ {
		for at, ok := x.lead(spine, i); ok; at, ok = x.lead(at, chainWord) {
			if _, known := x.met[at]; known {
				continue heads // the end of this row was gone over with another
			}
			x.met[at] = struct{}{}
			x.entry(at)
			meet(at)
		}
	}
}

// entry looks at an entry's header and key.
func (x *survey) entry(at int) {
	x.header(at)
	x.read(at, keyWord)
}

// header looks at an object's header.
func (x *survey) header(at int) {
	if x.heap.Check(at).Err != api.OK {
		x.note(at)
	}
}

// lead is the place to which an object's word i leads; false: it leads nowhere.
func (x *survey) lead(at, i int) (int, bool) {
	v, ok := x.read(at, i)
	return v.N, ok && v.Kind == api.ValRef
}

// read is the value of an object's word i; false: the word is wrong.
func (x *survey) read(at, i int) (api.Value, bool) {
	w, _ := x.heap.Peek(at + i)
	if !x.heap.Right(at, i, w) {
		x.note(at + i)
		return api.Value{}, false
	}
	return value.Read(w)
}

// note remembers a wrong word.
func (x *survey) note(at int) {
	if x.wrong < 0 || at < x.wrong {
		x.wrong = at
	}
}
