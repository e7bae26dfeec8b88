package gc

import (
	"math/rand"
	"slices"
	"testing"

	"hearth/api"
	"hearth/table"
)

const (
	greatest = 1<<63 - 1
	least    = -1 << 63

	nilWord    = 0*8 + 2
	brokenWord = 4*8 + 2
)

var (
	null   = api.Value{Kind: 3, N: 0}
	broken = api.Value{Kind: 3, N: 4}
)

type values = []api.Value

func fixnum(n int) api.Value { return api.Value{Kind: 1, N: n} }

func ref(at int) api.Value { return api.Value{Kind: 2, N: at} }

func char(n int) api.Value { return api.Value{Kind: 4, N: n} }

// wordOf is the word of a value that has one.
func wordOf(v api.Value) int { return v.N*8 + v.Kind - 1 }

func corrupt(at int) api.Fault { return api.Fault{Err: 21, At: at} }

func sameDump(a, b api.Dump) bool {
	return slices.Equal(a.Words, b.Words) && slices.Equal(a.Pages, b.Pages) && slices.Equal(a.Blocks, b.Blocks) && a.Heads == b.Heads && a.Serial == b.Serial
}

// heap is a heap that is to be made.
func heap(t testing.TB, n int) *table.Heap {
	t.Helper()
	h, e := table.New(n)
	if h == nil || e != api.OK {
		t.Fatalf("New(%d): %v, %d", n, h, e)
	}
	return h
}

// thing is an object that is to be made, with its first fields.
func thing(t testing.TB, h *table.Heap, kind, n, tag int, fields ...api.Value) api.Value {
	t.Helper()
	v, fault := h.Make(kind, n, tag)
	if fault.Err != 0 {
		t.Fatalf("Make(%d, %d, %d) = %v, %v", kind, n, tag, v, fault)
	}
	for i, x := range fields {
		set(t, h, v, 1+i, x)
	}
	return v
}

func set(t testing.TB, h *table.Heap, v api.Value, i int, x api.Value) {
	t.Helper()
	if fault := h.Set(v, i, x); fault.Err != 0 {
		t.Fatalf("Set(%v, %d, %v) = %v", v, i, x, fault)
	}
}

func box(t testing.TB, h *table.Heap, x api.Value) api.Value {
	t.Helper()
	return thing(t, h, 2, 0, 0, x)
}

func weak(t testing.TB, h *table.Heap, a, b api.Value) api.Value {
	t.Helper()
	return thing(t, h, 8, 0, 0, a, b)
}

func eph(t testing.TB, h *table.Heap, k, v api.Value) api.Value {
	t.Helper()
	return thing(t, h, 9, 0, 0, k, v)
}

func put(t testing.TB, h *table.Heap, m, k, v api.Value) {
	t.Helper()
	if fault := h.TablePut(m, k, v); fault.Err != 0 {
		t.Fatalf("TablePut(%v, %v, %v) = %v", m, k, v, fault)
	}
}

// spineOf is a table's spine.
func spineOf(h *table.Heap, m api.Value) api.Value { return ref(word(h, m.N+2) >> 3) }

// entryOf is the entry with a key, of those that belong to a table.
func entryOf(t testing.TB, h *table.Heap, m, k api.Value) api.Value {
	t.Helper()
	own, _ := h.Block(m.N)
	for b := range h.All() {
		if b.Kind == 13 && b.Tag == own.Serial && word(h, b.At+1) == wordOf(k) {
			return ref(b.At)
		}
	}
	t.Fatalf("the key %v has no entry", k)
	return null
}

func word(h *table.Heap, at int) int {
	w, _ := h.Peek(at)
	return w
}

// with writes a word for as long as a call lasts.
func with(h *table.Heap, at, w int, call func()) {
	old := word(h, at)
	h.Poke(at, w)
	call()
	h.Poke(at, old)
}

// all are the places of all objects.
func all(h *table.Heap) []int {
	var out []int
	for b := range h.All() {
		out = append(out, b.At)
	}
	return out
}

// collects tells a fault, if Collect does not report just this, the heap behind it is not the one that the plain collection has, or another one finds something to do.
func collects(t testing.TB, promise string, h *table.Heap, want api.Report, roots ...api.Value) {
	t.Helper()
	d, _, _ := plainCollect(h.Dump(), roots)
	if r, fault := Collect(h, roots); fault != (api.Fault{}) || r != want {
		t.Errorf("%s: Collect(%v) = %v, %v, want %v", promise, roots, r, fault, want)
	}
	if !sameDump(d, h.Dump()) {
		t.Errorf("%s: Collect(%v) has left another heap than it is to", promise, roots)
	}
	if r, fault := Collect(h, roots); fault != (api.Fault{}) || r != (api.Report{Kept: want.Kept}) || !sameDump(d, h.Dump()) {
		t.Errorf("P1503: a second Collect(%v) = %v, %v", roots, r, fault)
	}
}

// refuses tells a fault, if Collect does not answer this one, or has changed anything.
func refuses(t testing.TB, promise string, h *table.Heap, want api.Fault, roots ...api.Value) {
	t.Helper()
	old := h.Dump()
	if r, fault := Collect(h, roots); fault != want || r != (api.Report{}) {
		t.Errorf("%s: Collect(%v) = %v, %v, want %v", promise, roots, r, fault, want)
	}
	if !sameDump(old, h.Dump()) {
		t.Errorf("P1501: Collect(%v) has changed the heap", roots)
	}
}

// strangers are values that have no word.
func strangers() []api.Value {
	return []api.Value{
		{}, {Kind: 0, N: 5}, {Kind: 5, N: 0}, {Kind: -1, N: 0}, {Kind: 1 << 32, N: 0}, {Kind: 1<<32 + 1, N: 0}, {Kind: 1<<32 + 2, N: 0},
		{Kind: 1, N: 1 << 60}, {Kind: 1, N: -1<<60 - 1}, {Kind: 1, N: greatest}, {Kind: 2, N: -1}, {Kind: 2, N: 1 << 60}, {Kind: 2, N: 1 << 61}, {Kind: 2, N: least},
		{Kind: 3, N: 6}, {Kind: 3, N: -1}, {Kind: 4, N: -1}, {Kind: 4, N: 0xD800}, {Kind: 4, N: 0xDFFF}, {Kind: 4, N: 0x110000},
	}
}

// plain collects as the chapters' words have it, over a dump, by going over all objects again and again.
type plain struct {
	d      api.Dump
	blocks map[int]api.Block
	live   map[int]int // places that are reached
}

func newPlain(d api.Dump) *plain {
	p := &plain{d, map[int]api.Block{}, map[int]int{}}
	for _, b := range d.Blocks {
		p.blocks[b.At] = b
	}
	return p
}

// role is that of a word of an object, as the table of chapter 6 has it.
func role(kind, i int) int {
	list := map[int][]int{4: {1}, 5: {1}, 7: {6}, 8: {3, 2}, 9: {4, 5}, 10: {1, 8}, 11: {6, 7, 1, 1, 2}, 12: {9}, 13: {4, 5, 9}}[kind]
	if list == nil {
		return 2
	}
	return list[min(i, len(list))-1]
}

// read is a word of an object; false: it is wrong.
func (p *plain) read(b api.Block, i int) (api.Value, bool) {
	w := p.d.Words[b.At+i]
	v := api.Value{Kind: w&7 + 1, N: w >> 3}
	to, there := p.blocks[v.N]
	there = there && v.Kind == 2
	switch role(b.Kind, i) {
	case 6:
		return v, v == null || there && to.Kind == 11
	case 7:
		return v, v == null || there && to.Kind == 6 && to.Tag == b.Tag
	case 8:
		return v, v == null || there && to.Kind == 12 && to.Tag == b.Serial
	case 9:
		return v, v == null || there && to.Kind == 13 && to.Tag == b.Tag && (b.Kind == 12 || to.At > b.At)
	}
	return v, there && to.Kind <= 10 || v.Kind != 2 && simple(v)
}

// simple tells whether a value that is no reference has a word.
func simple(v api.Value) bool {
	switch v.Kind {
	case 1:
		return v.N >= -1<<60 && v.N < 1<<60
	case 3:
		return v.N >= 0 && v.N <= 5
	}
	return v.Kind == 4 && v.N >= 0 && v.N <= 0x10FFFF && (v.N < 0xD800 || v.N > 0xDFFF)
}

// lost tells whether a value refers to what is not reached.
func (p *plain) lost(v api.Value) bool { return v.Kind == 2 && p.live[v.N] == 0 }

// leads tells whether a word of an object that is reached reaches what it refers to.
func (p *plain) leads(b api.Block, i int) bool {
	switch role(b.Kind, i) {
	case 1, 3, 4:
		return false
	case 5:
		key, ok := p.read(b, 1)
		return ok && !p.lost(key)
	}
	return true
}

// round goes once over all objects; false: nothing more was reached.
func (p *plain) round() bool {
	more := false
	for _, b := range p.d.Blocks {
		for i := 1; i < b.Size && p.live[b.At] > 0; i++ {
			if v, ok := p.read(b, i); p.leads(b, i) && ok && p.lost(v) {
				p.live[v.N] = 1
				more = true
			}
		}
	}
	return more
}

func headerOf(b api.Block) int {
	x := uint64(b.At)*65536 + uint64(b.Kind)*2048 + uint64(b.Size)
	sign := x * 0x9E3779B97F5 % (1 << 44)
	return int((uint64(b.Kind)+uint64(b.Size)*32+sign*65536)*8 + 5)
}

// room is how many words the room of an object has.
func room(size int) int {
	if size > 32 {
		return (size + 63) / 64 * 64
	}
	for _, n := range []int{2, 4, 6, 8, 12, 16, 20} {
		if size <= n {
			return n
		}
	}
	return 32
}

// kept is a dump with those objects alone that are reached.
func (p *plain) kept() api.Dump {
	out := api.Dump{Words: make([]int, len(p.d.Words)), Pages: make([]api.Page, len(p.d.Pages)), Serial: p.d.Serial}
	for _, b := range p.d.Blocks {
		if p.live[b.At] == 0 {
			continue
		}
		out.Blocks = append(out.Blocks, b)
		copy(out.Words[b.At:b.At+room(b.Size)], p.d.Words[b.At:])
		for page := b.At / 64; page*64 < b.At+room(b.Size); page++ {
			out.Pages[page] = p.d.Pages[page]
		}
	}
	links, heads := newPlain(out).links()
	for at, w := range links {
		out.Words[at] = w
	}
	out.Heads = heads
	return out
}

// links are all free blocks, and the words that are to stand there; and the first ones of each class.
func (p *plain) links() (map[int]int, [8]int) {
	out, heads := map[int]int{}, [8]int{}
	for class, size := range []int{2, 4, 6, 8, 12, 16, 20, 32} {
		next := -1
		for n, page := range slices.Backward(p.d.Pages) {
			for i := 64/size - 1; i >= 0 && page == (api.Page{Kind: 1, Class: class}); i-- {
				at := n*64 + i*size
				if _, ok := p.blocks[at]; !ok {
					out[at] = next*8 + 4
					next = at
				}
			}
		}
		heads[class] = next
	}
	return out, heads
}

// wrong are the indices of all wrong words that a marking looks at, rising.
func (p *plain) wrong() []int {
	var out []int
	links, _ := p.links()
	for at, w := range links {
		if p.d.Words[at] != w {
			out = append(out, at)
		}
	}
	for _, b := range p.d.Blocks {
		if p.d.Words[b.At] != headerOf(b) {
			out = append(out, b.At)
		}
		for i := 1; i < b.Size && p.live[b.At] > 0; i++ {
			if _, ok := p.read(b, i); !ok && role(b.Kind, i) != 1 {
				out = append(out, b.At+i)
			}
		}
	}
	slices.Sort(out)
	return out
}

// reach reaches what the roots do; false: one of them is none.
func (p *plain) reach(roots []api.Value) bool {
	for _, v := range roots {
		b, ok := p.blocks[v.N]
		if v.Kind == 2 && (!ok || b.Kind > 11) || v.Kind != 2 && !simple(v) {
			return false
		}
		if v.Kind == 2 {
			p.live[v.N] = 1
		}
	}
	for p.round() {
	}
	return true
}

// gone tells whether an object has at its first word a reference to what is not reached.
func (p *plain) gone(b api.Block) bool {
	v, _ := p.read(b, 1)
	return p.lost(v)
}

// unlink leads a word past the entries whose keys are gone.
func (p *plain) unlink(at int) {
	for w := &p.d.Words[at]; *w != nilWord && p.gone(p.blocks[*w>>3]); {
		*w = p.d.Words[*w>>3+3]
	}
}

// weaken breaks and unlinks what has lost something, and counts it; entries that are unlinked are reached no longer.
func (p *plain) weaken() (r api.Report) {
	left := map[int]int{} // how many entries a table keeps, by its serial
	var dead []int
	for _, b := range p.d.Blocks {
		lost := p.live[b.At] > 0 && b.Kind >= 8 && b.Size > 1 && p.gone(b)
		switch {
		case b.Kind == 8 && lost:
			p.d.Words[b.At+1] = brokenWord
			r.Broken++
		case b.Kind == 9 && lost:
			p.d.Words[b.At+1], p.d.Words[b.At+2] = brokenWord, brokenWord
			r.Cleared++
		case b.Kind == 13 && lost:
			dead = append(dead, b.At)
			r.Pruned++
		case b.Kind == 13 && p.live[b.At] > 0:
			left[b.Tag]++
		}
	}
	for _, b := range p.d.Blocks {
		for i := 1; i < b.Size && p.live[b.At] > 0 && !slices.Contains(dead, b.At); i++ {
			if role(b.Kind, i) == 9 {
				p.unlink(b.At + i)
			}
		}
		if b.Kind == 10 && p.live[b.At] > 0 {
			p.d.Words[b.At+1] = left[b.Serial]
		}
	}
	for _, at := range dead {
		delete(p.live, at)
	}
	return r
}

func plainCollect(d api.Dump, roots []api.Value) (api.Dump, api.Report, api.Fault) {
	p := newPlain(d)
	if !p.reach(roots) {
		return d, api.Report{}, api.Fault{Err: 33}
	}
	if list := p.wrong(); len(list) > 0 {
		return d, api.Report{}, corrupt(list[0])
	}
	r := p.weaken()
	for _, b := range d.Blocks {
		if b.Serial > 0 && p.live[b.At] > 0 {
			r.Kept++
		} else if b.Serial > 0 {
			r.Freed++
		}
	}
	return p.kept(), r, api.Fault{}
}

// parts are the places of the spines to which tables refer, and of the entries to which their rows come, rising.
func parts(d api.Dump) []int {
	p := newPlain(d)
	met := map[int]int{}
	var list []api.Block
	for _, b := range d.Blocks {
		if b.Kind == 10 {
			list = append(list, b)
		}
	}
	for n := 0; n < len(list); n++ {
		b := list[n]
		for i := 1; i < b.Size; i++ {
			v, _ := p.read(b, i)
			if role(b.Kind, i) >= 8 && v.Kind == 2 && met[v.N] == 0 {
				met[v.N] = 1
				list = append(list, p.blocks[v.N])
			}
		}
	}
	var out []int
	for at := range met {
		out = append(out, at)
	}
	slices.Sort(out)
	return out
}

// bare are the places of the objects without serials.
func bare(d api.Dump) []int {
	var out []int
	for _, b := range d.Blocks {
		if b.Serial == 0 {
			out = append(out, b.At)
		}
	}
	return out
}

// past fills a heap without a rule.
type past struct {
	h      *table.Heap
	source *rand.Rand
}

// of is a reference to one of the objects of which something holds; nil, if there is none.
func (x *past) of(holds func(api.Block) bool) api.Value {
	var list []api.Value
	for b := range x.h.All() {
		if holds(b) {
			list = append(list, ref(b.At))
		}
	}
	if len(list) == 0 {
		return null
	}
	return list[x.source.Intn(len(list))]
}

func any(api.Block) bool { return true }

func visible(b api.Block) bool { return b.Kind <= 10 }

// field is a value that may stand in a pair, most often a reference.
func (x *past) field() api.Value {
	switch x.source.Intn(8) {
	case 0:
		return fixnum(x.source.Intn(400))
	case 1:
		return api.Value{Kind: 3, N: x.source.Intn(6)}
	case 2:
		return char(x.source.Intn(400))
	}
	return x.of(visible)
}

// make makes an object; weak things most often.
func (x *past) make() {
	list := []int{1, 2, 3, 5, 6, 7, 8, 8, 8, 9, 9, 9, 9, 9, 10, 10, 11, 11, 12, 13}
	kind, n := list[x.source.Intn(len(list))], 0
	switch kind {
	case 3, 6, 11:
		n = x.source.Intn(4)
		if x.source.Intn(20) == 0 {
			n = 60
		}
	case 12:
		n = 4
	}
	x.h.Make(kind, n, 1+x.source.Intn(4))
}

// fill turns some words of an object by values that are right there, whatever is led astray by that.
func (x *past) fill() {
	b, ok := x.h.Block(x.of(func(b api.Block) bool { return b.Size > 1 }).N)
	if !ok || b.Size == 1 {
		return
	}
	for range 2 {
		i := 1 + x.source.Intn(b.Size-1)
		v := x.of(func(to api.Block) bool { return x.h.Right(b.At, i, to.At*8+1) })
		if b.Kind <= 9 && x.source.Intn(4) == 0 {
			v = x.field()
		}
		x.h.Set(ref(b.At), i, v)
	}
}

// poke makes a word wrong, most likely, of an object or of a free block.
func (x *past) poke() {
	at := x.source.Intn(x.h.Words())
	if b, ok := x.h.Block(x.of(any).N); ok && x.source.Intn(3) > 0 {
		at = b.At + x.source.Intn(b.Size)
	}
	list := []int{0, 2, 4, 5, 6, 7, 50, 1<<20 + 1, at*8 + 1, wordOf(x.of(any)), wordOf(x.of(visible)), int(x.source.Uint64())}
	x.h.Poke(at, list[x.source.Intn(len(list))])
}

// turn changes something.
func (x *past) turn() {
	m := x.of(func(b api.Block) bool { return b.Kind == 10 })
	switch n := x.source.Intn(100); {
	case n < 35:
		x.make()
	case n < 60:
		x.h.TablePut(m, x.field(), x.field())
	case n < 65:
		x.h.TableDelete(m, x.field())
	default:
		x.fill()
	}
}

// roots are a few values, most often references.
func (x *past) roots() []api.Value {
	var out []api.Value
	for range 2 + x.source.Intn(4) {
		out = append(out, x.field())
	}
	return append(out, x.of(func(b api.Block) bool { return b.Kind == 11 }))
}
