package audit

import (
	"math/rand"
	"slices"
	"testing"

	"hearth/api"
	"hearth/table"
)

const (
	greatest = 1<<63 - 1
	least    = -1 << 63

	nilWord = 0*8 + 2
)

type (
	finding  = api.Finding
	findings = []api.Finding
)

var null = api.Value{Kind: 3, N: 0}

func ref(at int) api.Value { return api.Value{Kind: 2, N: at} }

func refWord(at int) int { return at*8 + 1 }

// heap is a heap that is to be made.
func heap(t testing.TB, n int) *table.Heap {
	t.Helper()
	h, e := table.New(n)
	if h == nil || e != api.OK {
		t.Fatalf("New(%d): %v, %d", n, h, e)
	}
	return h
}

// thing is an object that is to be made, with its first fields.
func thing(t testing.TB, h *table.Heap, kind, n, tag int, fields ...api.Value) api.Value {
	t.Helper()
	v, fault := h.Make(kind, n, tag)
	if fault.Err != 0 {
		t.Fatalf("Make(%d, %d, %d) = %v, %v", kind, n, tag, v, fault)
	}
	for i, x := range fields {
		if fault := h.Set(v, 1+i, x); fault.Err != 0 {
			t.Fatalf("Set(%v, %d, %v) = %v", v, 1+i, x, fault)
		}
	}
	return v
}

func put(t testing.TB, h *table.Heap, m, k, v api.Value) {
	t.Helper()
	if fault := h.TablePut(m, k, v); fault.Err != 0 {
		t.Fatalf("TablePut(%v, %v, %v) = %v", m, k, v, fault)
	}
}

func sameDump(a, b api.Dump) bool {
	return slices.Equal(a.Words, b.Words) && slices.Equal(a.Pages, b.Pages) && slices.Equal(a.Blocks, b.Blocks) && a.Heads == b.Heads && a.Serial == b.Serial
}

func clone(d api.Dump) api.Dump {
	d.Words, d.Pages, d.Blocks = slices.Clone(d.Words), slices.Clone(d.Pages), slices.Clone(d.Blocks)
	return d
}

// tells tells a fault, if Check does not tell just this.
func tells(t testing.TB, promise string, d api.Dump, want ...finding) {
	t.Helper()
	old := clone(d)
	if got := Check(d); !slices.Equal(got, want) {
		t.Errorf("%s: Check tells %v, want %v", promise, got, want)
	}
	if got := plainCheck(d); !slices.Equal(got, want) {
		t.Errorf("%s: the plain check tells %v, want %v", promise, got, want)
	}
	if !sameDump(old, d) {
		t.Errorf("P1608: Check has changed the dump")
	}
}

// plain looks a dump over as the chapter's words have it, each rule by going over all there is.
type plain struct {
	d     api.Dump
	stand []api.Block
	found map[finding]int
}

func (p *plain) find(at, what int) { p.found[finding{At: at, What: what}]++ }

func plainCheck(d api.Dump) findings {
	if len(d.Pages) == 0 || len(d.Pages) > 4096 || len(d.Words) != 64*len(d.Pages) {
		return findings{{At: 0, What: 6}}
	}
	p := &plain{d, nil, map[finding]int{}}
	p.blocks()
	for n := range d.Pages {
		if !p.page(n) {
			p.find(n, 6)
		}
	}
	p.serials()
	p.words()
	for c := range 8 {
		p.free(c)
	}
	var out findings
	for f := range p.found {
		out = append(out, f)
	}
	slices.SortFunc(out, func(a, b finding) int {
		if a.At < b.At || a.At == b.At && a.What < b.What {
			return -1
		}
		return 1
	})
	return out
}

// sizes are the words of the blocks of the classes.
func sizes() []int { return []int{2, 4, 6, 8, 12, 16, 20, 32} }

// classOf is the class of a size; 8: none.
func classOf(size int) int {
	for c, n := range sizes() {
		if size <= n {
			return c
		}
	}
	return 8
}

// shape tells whether there are objects of that kind and size, as the table of chapter 6 has it.
func shape(kind, size int) bool {
	switch kind {
	case 1, 8, 9, 10:
		return size == 3
	case 2, 5, 7:
		return size == 2
	case 3:
		return size >= 1 && size <= 1024
	case 4:
		return size >= 2 && size <= 514
	case 6:
		return size >= 1 && size <= 65
	case 11:
		return size >= 5 && size <= 133
	case 12:
		return slices.Contains([]int{5, 9, 17, 33, 65, 129, 257, 513}, size)
	}
	return kind == 13 && size == 4
}

func (p *plain) placed(b api.Block) bool {
	if !shape(b.Kind, b.Size) || b.At < 0 || b.At/64 >= len(p.d.Pages) {
		return false
	}
	page := p.d.Pages[b.At/64]
	if c := classOf(b.Size); c < 8 {
		n := sizes()[c]
		return page == api.Page{Kind: 1, Class: c} && b.At%64%n == 0 && b.At%64+n <= 64
	}
	return page == api.Page{Kind: 2, Run: (b.Size + 63) / 64} && b.At%64 == 0 && b.At+b.Size <= len(p.d.Words)
}

func (p *plain) blocks() {
	for i, b := range p.d.Blocks {
		good := p.placed(b)
		for _, ahead := range p.d.Blocks[:i] {
			good = good && b.At > ahead.At
		}
		if good {
			p.stand = append(p.stand, b)
		} else {
			p.find(b.At, 5)
		}
	}
}

// at is the block that stands at a place.
func (p *plain) at(place int) (api.Block, bool) {
	for _, b := range p.stand {
		if b.At == place {
			return b, true
		}
	}
	return api.Block{}, false
}

// rests tells whether the pages from one number up to another one are there, and rests.
func (p *plain) rests(from, to int) bool {
	for n := from; n < to; n++ {
		if n >= len(p.d.Pages) || p.d.Pages[n].Kind != 3 {
			return false
		}
	}
	return true
}

func (p *plain) page(n int) bool {
	page := p.d.Pages[n]
	if page == (api.Page{}) {
		return true
	}
	for c := range 8 {
		for _, b := range p.stand {
			if page == (api.Page{Kind: 1, Class: c}) && b.At/64 == n {
				return true
			}
		}
	}
	if page == (api.Page{Kind: 2, Run: page.Run}) {
		b, ok := p.at(n * 64)
		return ok && page.Run == (b.Size+63)/64 && p.rests(n+1, n+page.Run)
	}
	for q := range n {
		if page == (api.Page{Kind: 3}) && p.d.Pages[q] == (api.Page{Kind: 2, Run: p.d.Pages[q].Run}) && p.d.Pages[q].Run > n-q && p.rests(q+1, n) {
			return true
		}
	}
	return false
}

func (p *plain) serials() {
	for i, b := range p.stand {
		twice := false
		for _, ahead := range p.stand[:i] {
			twice = twice || ahead.Serial == b.Serial
		}
		if b.Kind <= 11 && (twice || b.Serial < 1 || b.Serial > p.d.Serial) || b.Kind >= 12 && b.Serial != 0 {
			p.find(b.At, 7)
		}
	}
}

// role is that of a word of an object, as the table of chapter 6 has it.
func role(kind, i int) int {
	list := map[int][]int{4: {1}, 5: {1}, 7: {6}, 8: {3, 2}, 9: {4, 5}, 10: {1, 8}, 11: {6, 7, 1, 1, 2}, 12: {9}, 13: {4, 5, 9}}[kind]
	if list == nil {
		return 2
	}
	return list[min(i, len(list))-1]
}

func headerOf(b api.Block) int {
	x := uint64(b.At)*65536 + uint64(b.Kind)*2048 + uint64(b.Size)
	sign := x * 0x9E3779B97F5 % (1 << 44)
	return int((uint64(b.Kind)+uint64(b.Size)*32+sign*65536)*8 + 5)
}

// right tells whether a word of a block is right.
func (p *plain) right(b api.Block, i int) bool {
	w := p.d.Words[b.At+i]
	to, there := p.at(w >> 3)
	there = there && w&7 == 1
	switch role(b.Kind, i) {
	case 1:
		return true
	case 6:
		return w == nilWord || there && to.Kind == 11
	case 7:
		return w == nilWord || there && to.Kind == 6 && to.Tag == b.Tag
	case 8:
		return w == nilWord || there && to.Kind == 12 && to.Tag == b.Serial
	case 9:
		return w == nilWord || there && to.Kind == 13 && to.Tag == b.Tag && (b.Kind == 12 || to.At > b.At)
	}
	return there && to.Kind <= 10 || simple(w)
}

// simple tells whether a word is that of a fixnum, an immediate or a char.
func simple(w int) bool {
	n := w >> 3
	switch w & 7 {
	case 0:
		return true
	case 2:
		return n >= 0 && n <= 5
	}
	return w&7 == 3 && n >= 0 && n <= 0x10FFFF && (n < 0xD800 || n > 0xDFFF)
}

func (p *plain) words() {
	for _, b := range p.stand {
		if p.d.Words[b.At] != headerOf(b) {
			p.find(b.At, 1)
		}
		for i := 1; i < b.Size; i++ {
			if !p.right(b, i) {
				p.find(b.At+i, 2)
			}
		}
	}
}

func (p *plain) free(c int) {
	var list []int
	for n, page := range p.d.Pages {
		for i := 0; i+sizes()[c] <= 64 && page == (api.Page{Kind: 1, Class: c}); i += sizes()[c] {
			if _, ok := p.at(n*64 + i); !ok {
				list = append(list, n*64+i)
			}
		}
	}
	list = append(list, -1)
	if p.d.Heads[c] != list[0] {
		p.find(c, 4)
	}
	for i, at := range list[:len(list)-1] {
		if p.d.Words[at] != list[i+1]*8+4 {
			p.find(at, 3)
		}
	}
}

// past fills a heap without a rule.
type past struct {
	h      *table.Heap
	source *rand.Rand
}

// of is a reference to one of the objects of which something holds; nil, if there is none.
func (x *past) of(holds func(api.Block) bool) api.Value {
	var list []api.Value
	for b := range x.h.All() {
		if holds(b) {
			list = append(list, ref(b.At))
		}
	}
	if len(list) == 0 {
		return null
	}
	return list[x.source.Intn(len(list))]
}

func any(api.Block) bool { return true }

func visible(b api.Block) bool { return b.Kind <= 10 }

// field is a value that may stand in a pair, most often a reference.
func (x *past) field() api.Value {
	switch x.source.Intn(8) {
	case 0:
		return api.Value{Kind: 1, N: x.source.Intn(400)}
	case 1:
		return api.Value{Kind: 3, N: x.source.Intn(6)}
	case 2:
		return api.Value{Kind: 4, N: x.source.Intn(400)}
	}
	return x.of(visible)
}

// make makes an object, now and then a large one.
func (x *past) make() {
	list := []int{1, 2, 3, 3, 4, 5, 6, 6, 7, 8, 9, 10, 10, 11, 11, 12, 13}
	kind, n := list[x.source.Intn(len(list))], 0
	switch kind {
	case 3, 6, 11:
		n = x.source.Intn(4)
		if x.source.Intn(10) == 0 {
			n = 28 + x.source.Intn(37)
		}
		if x.source.Intn(30) == 0 && kind != 6 {
			n = 128
		}
	case 4:
		n = x.source.Intn(300)
	case 12:
		n = 4
	}
	x.h.Make(kind, n, 1+x.source.Intn(4))
}

// fill turns some words of an object by values that are right there, whatever is led astray by that.
func (x *past) fill() {
	b, ok := x.h.Block(x.of(func(b api.Block) bool { return b.Size > 1 }).N)
	if !ok || b.Size == 1 {
		return
	}
	for range 2 {
		i := 1 + x.source.Intn(b.Size-1)
		v := x.of(func(to api.Block) bool { return x.h.Right(b.At, i, to.At*8+1) })
		if b.Kind <= 9 && x.source.Intn(4) == 0 {
			v = x.field()
		}
		x.h.Set(ref(b.At), i, v)
	}
}

// poke makes a word wrong, most likely, of an object or of a free block.
func (x *past) poke() {
	at := x.source.Intn(x.h.Words())
	if b, ok := x.h.Block(x.of(any).N); ok && x.source.Intn(3) > 0 {
		at = b.At + x.source.Intn(b.Size)
	} else if head := x.h.Dump().Heads[x.source.Intn(8)]; head >= 0 {
		at = head
	}
	x.h.Poke(at, x.word(at))
}

// word is one to be written at an index: right or wrong.
func (x *past) word(at int) int {
	a, b := x.of(any), x.of(visible)
	list := []int{0, 2, 4, 5, 6, 7, 50, 1<<20 + 1, at*8 + 1, a.N*8 + 1, b.N*8 + 1, a.N*8 + 4, int(x.source.Uint64())}
	return list[x.source.Intn(len(list))]
}

// keep frees some of the objects, whatever they leave behind.
func (x *past) keep() {
	var list []int
	for b := range x.h.All() {
		if x.source.Intn(3) > 0 {
			list = append(list, b.At)
		}
	}
	x.h.Keep(list)
}

// turn changes something.
func (x *past) turn() {
	m := x.of(func(b api.Block) bool { return b.Kind == 10 })
	switch n := x.source.Intn(100); {
	case n < 45:
		x.make()
	case n < 60:
		x.h.TablePut(m, x.field(), x.field())
	case n < 63:
		x.h.TableDelete(m, x.field())
	default:
		x.fill()
	}
}

// number is one near what may stand somewhere, or far from it.
func (x *past) number(near int) int {
	list := []int{0, 1, 2, 3, -1, near + 1, near - 1, near + 64, near - 64, -near, x.source.Intn(20), greatest, least, x.source.Intn(x.h.Words() + 9)}
	return list[x.source.Intn(len(list))]
}

// twist turns something in a dump: a word, a page, a block, a head, the last serial.
func (x *past) twist(d *api.Dump) {
	switch n := x.source.Intn(20); {
	case n < 5:
		at := x.source.Intn(len(d.Words))
		d.Words[at] = x.word(at)
	case n < 9:
		x.twistPage(d)
	case n < 16:
		x.twistBlock(d)
	case n < 18:
		c := x.source.Intn(8)
		d.Heads[c] = x.number(d.Heads[c])
	default:
		d.Serial = x.number(d.Serial)
	}
}

func (x *past) twistPage(d *api.Dump) {
	p := &d.Pages[x.source.Intn(len(d.Pages))]
	switch x.source.Intn(5) {
	case 0:
		p.Kind = x.number(p.Kind)
	case 1:
		p.Class = x.number(p.Class)
	case 2:
		p.Run = x.number(p.Run)
	case 3:
		*p = api.Page{Kind: x.source.Intn(4)}
	case 4:
		*p = d.Pages[x.source.Intn(len(d.Pages))]
	}
}

func (x *past) twistBlock(d *api.Dump) {
	if len(d.Blocks) == 0 {
		d.Blocks = append(d.Blocks, api.Block{At: 0, Kind: 1, Size: 3, Serial: 1})
		return
	}
	i, j := x.source.Intn(len(d.Blocks)), x.source.Intn(len(d.Blocks))
	b := &d.Blocks[i]
	switch x.source.Intn(9) {
	case 0:
		b.At = x.number(b.At)
	case 1:
		b.Kind = x.number(b.Kind)
	case 2:
		b.Size = x.number(b.Size)
	case 3:
		b.Serial = x.number(b.Serial)
	case 4:
		b.Tag = x.number(b.Tag)
	case 5:
		b.Serial = d.Blocks[j].Serial
	case 6:
		d.Blocks[i], d.Blocks[j] = d.Blocks[j], d.Blocks[i]
	case 7:
		d.Blocks = slices.Delete(d.Blocks, i, i+1)
	case 8:
		d.Blocks = slices.Insert(d.Blocks, j, *b)
	}
}
