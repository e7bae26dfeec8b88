package audit

import (
	"slices"
	"testing"

	"hearth/api"
	"hearth/table"
)

// wrongPages are the pages of a dump that Check tells.
func wrongPages(t *testing.T, d api.Dump) []int {
	t.Helper()
	var out []int
	got := Check(d)
	for _, f := range got {
		if f.What == 6 {
			out = append(out, f.At)
		}
	}
	if want := plainCheck(d); !slices.Equal(got, want) {
		t.Errorf("P1603: %v, want %v, of %v, %v", got, want, d.Pages, d.Blocks)
	}
	return out
}

type pageList = []api.Page

func TestP1603Pages(t *testing.T) {
	free, rest := api.Page{}, api.Page{Kind: 3}
	head := func(n int) api.Page { return api.Page{Kind: 2, Run: n} }
	vector := func(page, size int) api.Block {
		return api.Block{At: 64 * page, Kind: 3, Size: size, Serial: 1}
	}
	for i, c := range []struct {
		block api.Block
		pages pageList
		want  []int
	}{
		{vector(0, 129), pageList{head(3), rest, rest}, nil},
		{vector(0, 129), pageList{head(3), rest, rest, rest}, []int{3}},
		{vector(0, 129), pageList{head(3), rest, {Kind: 3, Class: 1}}, []int{2}}, // its Kind alone is asked for by the head
		{vector(0, 129), pageList{head(3), {Kind: 3, Run: 1}, rest}, []int{1}},
		{vector(0, 129), pageList{head(3), rest, free}, []int{0}},
		{vector(0, 129), pageList{head(3), free, rest}, []int{0, 2}},
		{vector(0, 129), pageList{head(3), rest, head(1)}, []int{0, 2}},
		{vector(0, 65), pageList{head(2), rest, rest}, []int{2}},
		{vector(0, 64), pageList{head(1), rest}, []int{1}},
		{vector(1, 64), pageList{rest, head(1), rest}, []int{0, 2}},
		{vector(1, 128), pageList{free, head(2), rest, free}, nil},
		{vector(3, 65), pageList{head(2), rest, rest, head(2), rest}, []int{0, 2}}, // a rest's head needs no block
		{vector(3, 65), pageList{head(greatest), rest, rest, head(2), rest}, []int{0}},
		{vector(3, 65), pageList{head(least), rest, rest, head(2), rest}, []int{0, 1, 2}},
		{vector(3, 65), pageList{head(-1), rest, rest, head(2), rest}, []int{0, 1, 2}},
		{vector(3, 65), pageList{head(0), rest, rest, head(2), rest}, []int{0, 1, 2}},
		{vector(3, 65), pageList{{Kind: 2, Class: 1, Run: 3}, rest, rest, head(2), rest}, []int{0, 1, 2}},
		{vector(3, 65), pageList{{Kind: 1, Run: 3}, rest, rest, head(2), rest}, []int{0, 1, 2}},
		{vector(3, 65), pageList{head(3), {Kind: 1, Class: 2}, rest, head(2), rest}, []int{0, 1, 2}},
		{vector(2, 65), pageList{free, free, head(2)}, []int{2}},
		{vector(0, 1024), pageList{head(16), rest, rest, rest, rest, rest, rest, rest, rest, rest, rest, rest, rest, rest, rest, rest}, nil},
	} {
		if got := wrongPages(t, lone(c.block, c.pages...)); !slices.Equal(got, c.want) {
			t.Errorf("P1603: %d: the pages %v are wrong, want %v, of %v", i, got, c.want, c.pages)
		}
	}
}

func TestP1603FreeAndClassPages(t *testing.T) {
	_, d := pair(t)
	box := d.Blocks[0]
	for _, page := range []api.Page{{Class: 1}, {Run: 1}, {Class: -1}, {Kind: -1}, {Kind: 4}, {Kind: 1, Class: -1}, {Kind: 1, Class: 8}, {Kind: 1, Class: 0}, {Kind: 1, Class: 2}, {Kind: 1, Class: 1, Run: 1}, {Kind: greatest, Class: least, Run: 5}} {
		d := lone(box, api.Page{Kind: 1, Class: 1}, page)
		if got := wrongPages(t, d); !slices.Equal(got, []int{1}) {
			t.Errorf("P1603: the pages %v are wrong of %v", got, d.Pages)
		}
	}
	for c, n := range sizes() {
		own := api.Page{Kind: 1, Class: c}
		for at := 0; at+n <= 64; at += n { // the first and the last block of the page keep it
			d := lone(api.Block{At: 64 + at, Kind: 3, Size: n, Serial: 1}, own, own, own)
			if got := wrongPages(t, d); !slices.Equal(got, []int{0, 2}) {
				t.Errorf("P1603: the pages %v are wrong, of class %d with a block at %d", got, c, 64+at)
			}
		}
	}
	// A large block whose words lie in a page of a class does not stand in it.
	large := lone(api.Block{At: 0, Kind: 3, Size: 100, Serial: 1}, api.Page{Kind: 2, Run: 2}, api.Page{Kind: 1, Class: 1})
	if got := wrongPages(t, large); !slices.Equal(got, []int{0, 1}) {
		t.Errorf("P1603: the pages %v are wrong", got)
	}
}

// Two blocks that stand over each other: a word that is wrong for both is told once.
func TestP1601EachOnce(t *testing.T) {
	d := lone(api.Block{At: 0, Kind: 3, Size: 100, Serial: 1}, api.Page{Kind: 2, Run: 2}, api.Page{Kind: 1, Class: 1})
	d.Blocks = append(d.Blocks, api.Block{At: 64, Kind: 1, Size: 3, Serial: 2})
	d.Serial = 2
	d.Words[65], d.Words[66] = 7, 9
	var want findings
	want = append(want, finding{At: 0, What: 1}, finding{At: 0, What: 6}, finding{At: 1, What: 4}, finding{At: 64, What: 1}, finding{At: 65, What: 2}, finding{At: 66, What: 2})
	for at := 68; at < 128; at += 4 {
		want = append(want, finding{At: at, What: 3})
	}
	tells(t, "P1601", d, want...)
}

func TestP1604Serials(t *testing.T) {
	h := heap(t, 4)
	for range 4 {
		thing(t, h, 1, 0, 0, null, null)
	}
	frame := thing(t, h, 11, 0, 0)
	entry, spine := thing(t, h, 13, 0, 9), thing(t, h, 12, 4, 9)
	number := func(v api.Value, d *api.Dump) *int {
		i := slices.IndexFunc(d.Blocks, func(b api.Block) bool { return b.At == v.N })
		return &d.Blocks[i].Serial
	}
	for _, c := range []struct {
		v      api.Value
		serial int
		want   bool
	}{
		{ref(0), 0, false}, {ref(0), -1, false}, {ref(0), 6, false}, {ref(0), greatest, false}, {ref(0), least, false}, {ref(0), 1, true},
		{ref(12), 4, true}, {ref(12), 3, false}, {ref(12), 1, false}, {ref(12), 0, false}, {ref(12), 6, false},
		{frame, 0, false}, {frame, 6, false}, {frame, 1, false}, {frame, 5, true},
		{entry, 0, true}, {entry, 6, false}, {entry, -1, false}, {entry, 9, false}, {spine, 0, true}, {spine, 6, false}, {spine, least, false},
	} {
		d := h.Dump()
		*number(c.v, &d) = c.serial
		if c.want {
			tells(t, "P1604", d)
		} else {
			tells(t, "P1604", d, finding{At: c.v.N, What: 7})
		}
	}
	d := h.Dump()
	*number(ref(0), &d), *number(ref(12), &d) = 4, 1 // out of order, but none twice
	tells(t, "P1604", d)
	*number(ref(4), &d), *number(ref(8), &d) = 4, 4
	tells(t, "P1604", d, finding{At: 4, What: 7}, finding{At: 8, What: 7})
	d = h.Dump()
	d.Serial = 3
	tells(t, "P1604", d, finding{At: 12, What: 7}, finding{At: frame.N, What: 7})
	d.Serial = least
	tells(t, "P1604", d, finding{At: 0, What: 7}, finding{At: 4, What: 7}, finding{At: 8, What: 7}, finding{At: 12, What: 7}, finding{At: frame.N, What: 7})
}

// The serial of an entry counts as that of a block ahead; that of a block that does not stand does not.
func TestP1604WhoIsAhead(t *testing.T) {
	h := heap(t, 1)
	thing(t, h, 13, 0, 9)
	thing(t, h, 1, 0, 0, null, null)
	d := h.Dump()
	d.Blocks[0].Serial = 1
	tells(t, "P1604", d, finding{At: 0, What: 7}, finding{At: 4, What: 7})
	d = h.Dump()
	d.Blocks = slices.Insert(d.Blocks, 1, api.Block{At: 2, Kind: 1, Size: 3, Serial: 1})
	tells(t, "P1604", d, finding{At: 2, What: 5})
}

func TestP1605Headers(t *testing.T) {
	h := zoo(t)
	d := h.Dump()
	for i, b := range d.Blocks {
		other := d.Blocks[(i+1)%len(d.Blocks)]
		for _, w := range []int{0, 5, least, greatest, d.Words[b.At] + 1, d.Words[b.At] - 8, d.Words[b.At] ^ 1<<62, d.Words[other.At], headerOf(api.Block{At: b.At, Kind: b.Kind, Size: b.Size + 1}), headerOf(api.Block{At: b.At, Kind: b.Kind%13 + 1, Size: b.Size}), headerOf(api.Block{At: b.At + 1, Kind: b.Kind, Size: b.Size})} {
			d := clone(d)
			d.Words[b.At] = w
			tells(t, "P1605", d, finding{At: b.At, What: 1})
		}
	}
	tells(t, "P1607", d)
}

// zoo is a heap with objects of each kind, each of which refers to others.
func zoo(t *testing.T) *table.Heap {
	t.Helper()
	h := heap(t, 12)
	text, _ := h.MakeText([]byte("hearth!?!"))
	key := thing(t, h, 2, 0, 0, text)
	flo := thing(t, h, 5, 0, 0)
	closure := thing(t, h, 6, 1, 5, flo)
	thing(t, h, 6, 1, 2, key)
	m, n := thing(t, h, 10, 0, 0), thing(t, h, 10, 0, 0)
	for i := range 12 {
		put(t, h, m, api.Value{Kind: 1, N: i}, text)
	}
	put(t, h, m, key, m)
	put(t, h, n, key, n)
	w := thing(t, h, 8, 0, 0, key, null)
	e := thing(t, h, 9, 0, 0, key, m)
	cont := thing(t, h, 7, 0, 0, thing(t, h, 11, 1, 2, null, null))
	frame := thing(t, h, 11, 2, 5, null, closure)
	h.Set(frame, 5, w)
	h.Set(frame, 6, e)
	thing(t, h, 11, 0, 5, frame, closure)
	thing(t, h, 3, 90, 0, cont, w)
	return h
}

// Each word of each object, by all values that may matter: right or wrong, as the roles have it.
func TestP1605Values(t *testing.T) {
	h := zoo(t)
	d := h.Dump()
	words := []int{0, -8, least, greatest - 7, 2, 10, 42, 50, -6, 3, 0xD7FF*8 + 3, 0xD800*8 + 3, 0xDFFF*8 + 3, 0xE000*8 + 3, 0x10FFFF*8 + 3, 0x110000*8 + 3, -5, 4, 5, 6, 7, -4, -7, greatest, refWord(len(d.Words)), refWord(1), refWord(1 << 59)}
	for _, b := range d.Blocks {
		words = append(words, refWord(b.At), refWord(b.At+1), b.At*8+4)
	}
	told := map[bool]int{}
	for _, b := range d.Blocks {
		for i := 1; i < b.Size && i < 12; i++ {
			old := d.Words[b.At+i]
			for _, w := range words {
				d.Words[b.At+i] = w
				p := &plain{d, d.Blocks, nil}
				right := p.right(b, i)
				got := Check(d)
				if right && len(got) > 0 || !right && !slices.Equal(got, findings{{At: b.At + i, What: 2}}) {
					t.Fatalf("P1605: %v of the word %d at %d of %v", got, w, i, b)
				}
				told[right]++
			}
			d.Words[b.At+i] = old
		}
	}
	if told[true] < 2000 || told[false] < 2000 {
		t.Errorf("what was told: %v", told)
	}
}

// A reference to a block that does not stand is wrong; so is one to a block whose kind or tag the side table has otherwise.
func TestP1605WhatStands(t *testing.T) {
	h := heap(t, 4)
	a := thing(t, h, 2, 0, 0, null)
	b := thing(t, h, 2, 0, 0, a)
	closure := thing(t, h, 6, 0, 3)
	frame := thing(t, h, 11, 0, 3, null, closure)
	d := h.Dump()
	tells(t, "P1605", d)
	i := slices.IndexFunc(d.Blocks, func(x api.Block) bool { return x.At == closure.N })
	d.Blocks[i].Tag = 4
	tells(t, "P1605", d, finding{At: frame.N + 2, What: 2})
	d.Blocks[i].Tag = 3
	d.Blocks[slices.IndexFunc(d.Blocks, func(x api.Block) bool { return x.At == frame.N })].Tag = -3
	tells(t, "P1605", d, finding{At: frame.N + 2, What: 2})
	d = h.Dump()
	d.Blocks = slices.DeleteFunc(d.Blocks, func(x api.Block) bool { return x.At == a.N })
	tells(t, "P1605", d, finding{At: 0, What: 3}, finding{At: 0, What: 4}, finding{At: b.N + 1, What: 2})
}

func TestP1606Heads(t *testing.T) {
	h := heap(t, 12)
	for _, n := range []int{1, 3, 5, 7, 11, 15, 19, 31} {
		thing(t, h, 3, n, 0)
	}
	d := h.Dump()
	tells(t, "P1606", d)
	for c, n := range sizes() {
		if d.Heads[c] != 64*c+n {
			t.Fatalf("the head of class %d is %d", c, d.Heads[c])
		}
		for _, head := range []int{-1, 0, 64 * c, 64*c + n - 1, 64*c + 2*n, least, greatest} {
			d := clone(d)
			d.Heads[c] = head
			tells(t, "P1606", d, finding{At: c, What: 4})
		}
	}
	s := heap(t, 2)
	for _, head := range []int{0, 64, -2, greatest} {
		d := s.Dump()
		d.Heads = [8]int{head, -1, head, -1, -1, -1, -1, head}
		tells(t, "P1606", d, finding{At: 0, What: 4}, finding{At: 2, What: 4}, finding{At: 7, What: 4})
	}
}

// Each link of each class, over two pages: to the next free block, by rising index; -1 in the last one.
func TestP1606Links(t *testing.T) {
	for c, n := range sizes() {
		h := heap(t, 4)
		var all []api.Value
		for range 64/n + 1 {
			all = append(all, thing(t, h, 3, n-1, 0))
		}
		thing(t, h, 3, 40, 0)
		var keep []int
		for i, v := range all {
			if i%3 != 1 {
				keep = append(keep, v.N)
			}
		}
		if len(h.Blocks()) > len(keep) {
			h.Keep(keep)
		}
		d := h.Dump()
		tells(t, "P1606", d)
		for at := d.Heads[c]; at >= 0; at = d.Words[at] >> 3 {
			for _, w := range []int{0, 4, -4, at*8 + 4, d.Words[at] + 8, d.Words[at] - 8, d.Words[at] - 3, headerOf(api.Block{At: at, Kind: 3, Size: n}), least, greatest} {
				if w == d.Words[at] {
					continue
				}
				d := clone(d)
				d.Words[at] = w
				tells(t, "P1606", d, finding{At: at, What: 3})
			}
		}
	}
}

// The words of free blocks behind their first ones, of free pages, behind the last block of a page, behind an object in its room: nobody looks at them.
func TestP1606WordsOfNobody(t *testing.T) {
	h := heap(t, 4)
	thing(t, h, 1, 0, 0, null, null)
	thing(t, h, 3, 4, 0)
	thing(t, h, 3, 39, 0)
	d := h.Dump()
	for _, at := range []int{3, 5, 6, 7, 61, 63, 69, 71, 64 + 60, 127, 128 + 40, 191, 192, 255} {
		d.Words[at] = 7
	}
	tells(t, "P1606", d)
}
