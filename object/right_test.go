package object

import (
	"testing"

	"hearth/api"
)

// village is one object of every kind, and of the kinds that belong to others some of each tag.
type village struct {
	h   *Heap
	all []api.Value
	// Tables, and entries and spines of the tables number one and two; closures and frames of the functions 1 and 2.
	tables, spines, closures, frames [2]api.Value
	entries                          [2][3]api.Value
}

func settle(t *testing.T) *village {
	h := made(t, 20)
	x := &village{h: h}
	add := func(v api.Value) api.Value {
		x.all = append(x.all, v)
		return v
	}
	for _, kind := range []int{1, 2, 3, 5, 6, 7, 8, 9, 10, 11, 13} {
		add(object(t, h, kind, 0, 0))
	}
	add(object(t, h, api.KindVector, 50, 0))
	add(text(t, h, "hi"))
	for i := range 2 {
		x.tables[i] = add(object(t, h, api.KindTable, 0, 0))
		b, _ := h.Open(x.tables[i])
		for k := range 3 {
			x.entries[i][k] = add(object(t, h, api.KindEntry, 0, b.Serial))
		}
		x.spines[i] = add(object(t, h, api.KindSpine, 4, b.Serial))
		x.closures[i] = add(object(t, h, api.KindClosure, 2, i+1))
		x.frames[i] = add(object(t, h, api.KindFrame, 2, i+1))
	}
	return x
}

// takes tells a fault, if the word i of v takes another set of the village's objects than those.
func (x *village) takes(t *testing.T, v api.Value, i int, want func(b api.Block) bool) {
	t.Helper()
	for _, to := range x.all {
		b, _ := x.h.Block(to.N)
		if got := x.h.Right(v.N, i, refWord(to)); got != want(b) {
			t.Errorf("P908: Right of a reference to %v at word %d of %v: %v", b, i, v, got)
		}
		old, _ := x.h.Peek(v.N + i)
		fault := x.h.Set(v, i, to)
		if want(b) != (fault == api.Fault{}) || !want(b) && fault != no(33) {
			t.Errorf("P905: Set of a reference to %v at word %d of %v: %v", b, i, v, fault)
		}
		x.h.Poke(v.N+i, refWord(to))
		got, fault := x.h.Get(v, i)
		if want(b) && (got != to || fault != api.Fault{}) || !want(b) && (got != api.Value{} || fault != api.Fault{Err: 21, At: v.N + i}) {
			t.Errorf("P904: Get of a reference to %v at word %d of %v: %v, %v", b, i, v, got, fault)
		}
		x.h.Poke(v.N+i, old)
	}
}

// words tells a fault, if a word that is no reference is right there, or not.
func (x *village) words(t *testing.T, v api.Value, i int, plain bool) {
	t.Helper()
	right := map[int]bool{nilWord: true}
	for _, w := range []int{0, 8, -8, 1<<63 - 8, least, 10, 18, 26, 34, 42, 3, 65*8 + 3, 0xD7FF*8 + 3, 0xE000*8 + 3, 0x10FFFF*8 + 3} {
		right[w] = plain
	}
	for _, w := range []int{50, -6, 58, -5, 0xD800*8 + 3, 0xDFFF*8 + 3, 0x110000*8 + 3, 4, -4, 5, 6, 7, 12, 13, 14, 15, -7, 1<<20 + 1, greatest, least + 1, least + 2, least + 3, 9} {
		right[w] = false
	}
	for w, want := range right {
		if got := x.h.Right(v.N, i, w); got != want {
			t.Errorf("P908: Right(%d, %d, %d) = %v", v.N, i, w, got)
		}
	}
}

func visible(b api.Block) bool { return b.Kind >= 1 && b.Kind <= 10 }

func TestP908Plain(t *testing.T) {
	x := settle(t)
	for _, v := range x.all {
		b, _ := x.h.Open(v)
		for i := 1; i < b.Size; i++ {
			if roleOf(b, i) == 's' && i < 8 {
				x.takes(t, v, i, visible)
				x.words(t, v, i, true)
			}
		}
	}
}

func TestP908Frames(t *testing.T) {
	x := settle(t)
	isFrame := func(b api.Block) bool { return b.Kind == 11 }
	cont := object(t, x.h, api.KindCont, 0, 0)
	for _, v := range []api.Value{cont, x.frames[0], x.frames[1]} {
		x.takes(t, v, 1, isFrame)
		x.words(t, v, 1, false)
	}
}

func TestP908Functions(t *testing.T) {
	x := settle(t)
	for i, v := range x.frames {
		x.takes(t, v, 2, func(b api.Block) bool { return b.Kind == 6 && b.Tag == i+1 })
		x.words(t, v, 2, false)
	}
	for _, tag := range wild() {
		f, k := object(t, x.h, api.KindFrame, 0, tag), object(t, x.h, api.KindClosure, 0, tag)
		other := object(t, x.h, api.KindClosure, 0, tag^1<<32)
		if !x.h.Right(f.N, 2, refWord(k)) || x.h.Right(f.N, 2, refWord(other)) {
			t.Errorf("P908: a frame of the function %d does not tell closures apart", tag)
		}
	}
}

func TestP908Spines(t *testing.T) {
	x := settle(t)
	for i, v := range x.tables {
		x.takes(t, v, 2, func(b api.Block) bool { return b.At == x.spines[i].N })
		x.words(t, v, 2, false)
	}
}

// A table's own tag is nothing: a spine belongs to it by the table's serial.
func TestP908SpinesByTheSerial(t *testing.T) {
	h := made(t, 3)
	object(t, h, api.KindBox, 0, 0)
	table := object(t, h, api.KindTable, 0, 9)
	mine, other := object(t, h, api.KindSpine, 4, 2), object(t, h, api.KindSpine, 4, 9)
	if !h.Right(table.N, 2, refWord(mine)) || h.Right(table.N, 2, refWord(other)) {
		t.Errorf("P908: spines of a table with the serial 2 and the tag 9")
	}
}

func TestP908Chains(t *testing.T) {
	x := settle(t)
	for i := range 2 {
		serial, _ := x.h.Open(x.tables[i])
		mine := func(b api.Block) bool { return b.Kind == 13 && b.Tag == serial.Serial }
		for head := 1; head <= 4; head++ {
			x.takes(t, x.spines[i], head, mine)
			x.words(t, x.spines[i], head, false)
		}
		for _, e := range x.entries[i] {
			x.takes(t, e, 3, func(b api.Block) bool { return mine(b) && b.At > e.N })
			x.words(t, e, 3, false)
		}
	}
}

// A spine's heads lead to entries at lesser places than its own, too.
func TestP908HeadsLeadAnywhere(t *testing.T) {
	h := made(t, 3)
	below := object(t, h, api.KindEntry, 0, 5)
	spine := object(t, h, api.KindSpine, 4, 5)
	h2 := made(t, 3)
	spine2 := object(t, h2, api.KindSpine, 4, 5)
	above := object(t, h2, api.KindEntry, 0, 5)
	if below.N > spine.N || above.N < spine2.N {
		t.Fatalf("P806: the objects lie at %d, %d; %d, %d", below.N, spine.N, spine2.N, above.N)
	}
	if !h.Right(spine.N, 1, refWord(below)) || !h2.Right(spine2.N, 1, refWord(above)) {
		t.Errorf("P908: a head that leads to an entry below, or above, its spine")
	}
}

func TestP908Raw(t *testing.T) {
	x := settle(t)
	for _, v := range x.all {
		b, _ := x.h.Open(v)
		for i := 1; i < b.Size; i++ {
			for _, w := range append(wild(), 0, 1, 2, 3, 4, 5, 6, 7, refWord(v)) {
				if roleOf(b, i) == 'r' && !x.h.Right(v.N, i, w) {
					t.Errorf("P908: Right of the raw word %d at %d of %v", w, i, b)
				}
			}
		}
	}
}

func TestP908NoWord(t *testing.T) {
	x := settle(t)
	for _, v := range x.all {
		b, _ := x.h.Open(v)
		for _, i := range append(wild(), 0, b.Size, b.Size+1) {
			for _, w := range []int{0, nilWord, voidWord, refWord(v), 6} {
				if x.h.Right(v.N, i, w) {
					t.Errorf("P908: Right of the word %d at %d of %v", w, i, b)
				}
			}
		}
	}
	for _, at := range append(wild(), x.all[0].N+1, x.all[0].N+2, x.h.Words()-1, x.h.Words()) {
		for i := range 4 {
			if x.h.Right(at, i, nilWord) {
				t.Errorf("P908: Right(%d, %d, nil), where no object begins", at, i)
			}
		}
	}
}

// Right asks side tables alone: it answers the same, whatever stands in the arena.
func TestP908WordsAreNotLookedAt(t *testing.T) {
	x, y := settle(t), settle(t)
	for at := range y.h.Words() {
		y.h.Poke(at, 7)
	}
	for _, v := range x.all {
		b, _ := x.h.Open(v)
		for i := range min(b.Size, 8) + 1 {
			for _, to := range x.all {
				if w := refWord(to); x.h.Right(v.N, i, w) != y.h.Right(v.N, i, w) {
					t.Errorf("P908: Right(%d, %d, %d) hangs on the arena's words", v.N, i, w)
				}
			}
			if !y.h.Right(v.N, i, nilWord) && roleOf(b, i) != '-' {
				t.Errorf("P908: Right(%d, %d, nil) hangs on the arena's words", v.N, i)
			}
		}
	}
}
