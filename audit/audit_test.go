package audit

import (
	"testing"

	"hearth/api"
	"hearth/space"
	"hearth/table"
)

// pair is a space of one page with a pair of nil and nil, and its dump.
func pair(t testing.TB) (*table.Heap, api.Dump) {
	t.Helper()
	h := heap(t, 1)
	thing(t, h, 1, 0, 0, null, null)
	return h, h.Dump()
}

// turned is the dump of that space with something turned.
func turned(t testing.TB, turn func(d *api.Dump)) api.Dump {
	t.Helper()
	_, d := pair(t)
	turn(&d)
	return d
}

func TestP1601ChapterExamples(t *testing.T) {
	s, _ := space.New(1)
	tells(t, "P1601", s.Dump())
	tells(t, "P1601", api.Dump{}, finding{At: 0, What: 6})
	tells(t, "P1601", turned(t, func(d *api.Dump) {}))
	tells(t, "P1605", turned(t, func(d *api.Dump) { d.Words[0] = 0 }), finding{At: 0, What: 1})
	tells(t, "P1605", turned(t, func(d *api.Dump) { d.Words[1] = 1 }))
	tells(t, "P1605", turned(t, func(d *api.Dump) { d.Words[1] = 9 }), finding{At: 1, What: 2})
	tells(t, "P1606", turned(t, func(d *api.Dump) { d.Words[4] = 0 }), finding{At: 4, What: 3})
	tells(t, "P1606", turned(t, func(d *api.Dump) { d.Heads[1] = 8 }), finding{At: 1, What: 4})
	tells(t, "P1602", turned(t, func(d *api.Dump) { d.Blocks = append(d.Blocks, d.Blocks[0]) }), finding{At: 0, What: 5})
	tells(t, "P1606", turned(t, func(d *api.Dump) { d.Blocks = nil }), finding{At: 0, What: 3}, finding{At: 0, What: 6}, finding{At: 1, What: 4})
}

// A dump that is no dump at all, whatever else is wrong in it.
func TestP1601NoDump(t *testing.T) {
	none := finding{At: 0, What: 6}
	for _, c := range []struct{ pages, words int }{{0, 0}, {0, 64}, {1, 0}, {1, 63}, {1, 65}, {1, 128}, {2, 64}, {2, 127}, {4097, 4097 * 64}, {4096, 4096*64 - 1}, {4096, 4096*64 + 64}} {
		d := api.Dump{Words: make([]int, c.words), Pages: make([]api.Page, c.pages)}
		tells(t, "P1601", d, none)
		d.Blocks, d.Heads = []api.Block{{At: 0, Kind: 1, Size: 3, Serial: 1}, {At: -7}}, [8]int{5, 5}
		tells(t, "P1601", d, none)
	}
	for _, n := range []int{1, 2, 4096} {
		tells(t, "P1601", api.Dump{Words: make([]int, n*64), Pages: make([]api.Page, n), Heads: [8]int{-1, -1, -1, -1, -1, -1, -1, -1}})
	}
}

// All that can be wrong, at once, of one dump: by rising At, and of one At by rising What.
func TestP1601Order(t *testing.T) {
	h := heap(t, 2)
	thing(t, h, 1, 0, 0, null, null)
	thing(t, h, 1, 0, 0, null, null)
	thing(t, h, 13, 0, 1)
	d := h.Dump()
	d.Words[0], d.Words[1], d.Words[2] = 7, 6, 9
	d.Words[12], d.Words[60] = 0, 0
	d.Pages[1] = api.Page{Kind: 3}
	d.Blocks[0].Serial, d.Blocks[2].Serial = 3, 2
	d.Blocks = append(d.Blocks, api.Block{At: 1, Kind: 1, Size: 3}, api.Block{At: -5}, api.Block{At: 0}, api.Block{At: 0})
	d.Heads[0], d.Heads[7] = 0, 2
	tells(t, "P1601", d,
		finding{At: -5, What: 5},
		finding{At: 0, What: 1}, finding{At: 0, What: 4}, finding{At: 0, What: 5}, finding{At: 0, What: 7},
		finding{At: 1, What: 2}, finding{At: 1, What: 5}, finding{At: 1, What: 6},
		finding{At: 2, What: 2}, finding{At: 7, What: 4}, finding{At: 8, What: 7}, finding{At: 12, What: 3}, finding{At: 60, What: 3})
}

// lone is a dump with a page, or a row of pages, and one block.
func lone(b api.Block, pages ...api.Page) api.Dump {
	d := api.Dump{Words: make([]int, 64*len(pages)), Pages: pages, Blocks: []api.Block{b}, Serial: 1}
	for c := range d.Heads {
		d.Heads[c] = -1
	}
	return d
}

// stood tells whether the only block of a dump stands.
func stood(t *testing.T, d api.Dump) bool {
	t.Helper()
	blocks := 0
	got, want := Check(d), plainCheck(d)
	for _, f := range got {
		if f.What == 5 {
			blocks++
			if f.At != d.Blocks[0].At {
				t.Errorf("P1602: %v of the block %v", f, d.Blocks[0])
			}
		}
	}
	if len(got) != len(want) {
		t.Errorf("P1602: %v, want %v, of %v", got, want, d)
	}
	return blocks == 0
}

func TestP1602BlocksOfClasses(t *testing.T) {
	for c, n := range sizes() {
		free, own := api.Page{}, api.Page{Kind: 1, Class: c}
		for at := range 64 {
			want := at%n == 0 && at+n <= 64
			if got := stood(t, lone(api.Block{At: 64 + at, Kind: 3, Size: n, Serial: 1}, free, own)); got != want {
				t.Errorf("P1602: a block of class %d at the offset %d stands: %v", c, at, got)
			}
		}
		for _, at := range []int{0, 128, 192, -64, -1, -n, least, greatest, greatest / 64 * 64} {
			if stood(t, lone(api.Block{At: at, Kind: 3, Size: n, Serial: 1}, free, own)) {
				t.Errorf("P1602: a block of class %d at %d stands", c, at)
			}
		}
		for _, page := range []api.Page{{}, {Kind: 1, Class: c + 1}, {Kind: 1, Class: c - 1}, {Kind: 1, Class: c, Run: 1}, {Kind: 2, Class: c}, {Kind: 2, Run: 1}, {Kind: 3}, {Kind: 4, Class: c}} {
			if stood(t, lone(api.Block{At: 0, Kind: 3, Size: n, Serial: 1}, page)) {
				t.Errorf("P1602: a block of class %d stands in the page %v", c, page)
			}
		}
		for size := range 70 {
			want := size > 0 && classOf(size) == c
			if got := stood(t, lone(api.Block{At: 0, Kind: 3, Size: size, Serial: 1}, own)); got != want {
				t.Errorf("P1602: a vector of %d words stands in a page of class %d: %v", size, c, got)
			}
		}
	}
}

func TestP1602Shapes(t *testing.T) {
	page := api.Page{Kind: 1, Class: 1}
	for kind := -2; kind < 20; kind++ {
		for size := range 8 {
			want := shape(kind, size) && (size == 3 || size == 4)
			if got := stood(t, lone(api.Block{At: 4, Kind: kind, Size: size}, page)); got != want {
				t.Errorf("P1602: a block of kind %d with %d words stands: %v", kind, size, got)
			}
		}
	}
	for _, size := range []int{-3, -1, 0, 1025, 1 << 32, 1<<32 + 3, greatest, least} {
		for _, kind := range []int{3, 4} {
			if stood(t, lone(api.Block{At: 0, Kind: kind, Size: size}, page)) || stood(t, lone(api.Block{At: 0, Kind: kind, Size: size}, api.Page{Kind: 2, Run: 17})) {
				t.Errorf("P1602: a block of kind %d with %d words stands", kind, size)
			}
		}
	}
}

func TestP1602LargeBlocks(t *testing.T) {
	rest := api.Page{Kind: 3}
	for _, size := range []int{33, 63, 64, 65, 128, 129, 192} {
		n := (size + 63) / 64
		for run := range 5 {
			d := lone(api.Block{At: 64, Kind: 3, Size: size, Serial: 1}, api.Page{}, api.Page{Kind: 2, Run: run}, rest, rest, rest)
			if got := stood(t, d); got != (run == n) {
				t.Errorf("P1602: a vector of %d words stands at a run of %d pages: %v", size, run, got)
			}
		}
		for at := range 130 {
			d := lone(api.Block{At: at, Kind: 3, Size: size, Serial: 1}, api.Page{}, api.Page{Kind: 2, Run: n}, rest, rest, rest)
			if got := stood(t, d); got != (at == 64) {
				t.Errorf("P1602: a vector of %d words stands at %d: %v", size, at, got)
			}
		}
		for _, page := range []api.Page{{}, {Kind: 1, Class: 7}, {Kind: 1, Class: 8}, {Kind: 2, Class: 1, Run: n}, {Kind: 3, Run: n}, {Kind: 1, Run: n}} {
			if stood(t, lone(api.Block{At: 0, Kind: 3, Size: size, Serial: 1}, page, rest, rest)) {
				t.Errorf("P1602: a vector of %d words stands at the page %v", size, page)
			}
		}
	}
	for _, c := range []struct {
		size, pages int
		want        bool
	}{{64, 1, true}, {65, 1, false}, {65, 2, true}, {128, 2, true}, {129, 2, false}, {1024, 16, true}, {1024, 15, false}, {961, 16, true}, {961, 15, false}} {
		pages := make([]api.Page, c.pages)
		for p := range pages {
			pages[p] = rest
		}
		pages[0] = api.Page{Kind: 2, Run: (c.size + 63) / 64}
		if got := stood(t, lone(api.Block{At: 0, Kind: 3, Size: c.size, Serial: 1}, pages...)); got != c.want {
			t.Errorf("P1602: a vector of %d words stands in %d pages: %v", c.size, c.pages, got)
		}
	}
	for _, at := range []int{-64, least, greatest - 63, 1 << 62} {
		if stood(t, lone(api.Block{At: at, Kind: 3, Size: 64, Serial: 1}, api.Page{Kind: 2, Run: 1})) {
			t.Errorf("P1602: a block stands at %d", at)
		}
	}
}

// A block that does not stand counts as one ahead of those behind it; what it hides is free then.
func TestP1602OrderOfBlocks(t *testing.T) {
	h := heap(t, 1)
	for range 3 {
		thing(t, h, 1, 0, 0, null, null)
	}
	d := h.Dump()
	a, b, c := d.Blocks[0], d.Blocks[1], d.Blocks[2]
	try := func(want findings, blocks ...api.Block) {
		t.Helper()
		d.Blocks = blocks
		tells(t, "P1602", d, want...)
	}
	try(nil, a, b, c)
	try(findings{{At: 1, What: 4}, {At: 4, What: 3}, {At: 4, What: 5}}, a, c, b)
	try(findings{{At: 0, What: 3}, {At: 0, What: 5}, {At: 1, What: 4}, {At: 4, What: 3}, {At: 4, What: 5}}, c, a, b)
	try(findings{{At: 0, What: 5}, {At: 4, What: 5}}, a, b, a, b, a, c)
	try(findings{{At: 2, What: 5}}, a, api.Block{At: 2, Kind: 1, Size: 3, Serial: 3}, b, c)
	try(findings{{At: -9, What: 5}}, api.Block{At: -9, Kind: 1, Size: 3}, a, b, c)
	try(findings{{At: 1, What: 4}, {At: 4, What: 3}, {At: 4, What: 5}, {At: 8, What: 3}, {At: 8, What: 5}, {At: greatest, What: 5}}, a, api.Block{At: greatest, Kind: 1, Size: 3}, b, c)
}
