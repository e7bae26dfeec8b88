package sweep

import (
	"math/rand"
	"slices"
	"testing"

	"hearth/api"
	"hearth/mark"
	"hearth/table"
)

const (
	greatest = 1<<63 - 1
	least    = -1 << 63

	nilWord    = 0*8 + 2
	brokenWord = 4*8 + 2
)

var (
	null   = api.Value{Kind: 3, N: 0}
	broken = api.Value{Kind: 3, N: 4}
)

type values = []api.Value

func fixnum(n int) api.Value { return api.Value{Kind: 1, N: n} }

func ref(at int) api.Value { return api.Value{Kind: 2, N: at} }

func char(n int) api.Value { return api.Value{Kind: 4, N: n} }

// wordOf is the word of a value that has one.
func wordOf(v api.Value) int { return v.N*8 + v.Kind - 1 }

func corrupt(at int) api.Fault { return api.Fault{Err: 21, At: at} }

func sameDump(a, b api.Dump) bool {
	return slices.Equal(a.Words, b.Words) && slices.Equal(a.Pages, b.Pages) && slices.Equal(a.Blocks, b.Blocks) && a.Heads == b.Heads && a.Serial == b.Serial
}

// heap is a heap that is to be made.
func heap(t testing.TB, n int) *table.Heap {
	t.Helper()
	h, e := table.New(n)
	if h == nil || e != api.OK {
		t.Fatalf("New(%d): %v, %d", n, h, e)
	}
	return h
}

// thing is an object that is to be made, with its first fields.
func thing(t testing.TB, h *table.Heap, kind, n, tag int, fields ...api.Value) api.Value {
	t.Helper()
	v, fault := h.Make(kind, n, tag)
	if fault.Err != 0 {
		t.Fatalf("Make(%d, %d, %d) = %v, %v", kind, n, tag, v, fault)
	}
	for i, x := range fields {
		set(t, h, v, 1+i, x)
	}
	return v
}

func set(t testing.TB, h *table.Heap, v api.Value, i int, x api.Value) {
	t.Helper()
	if fault := h.Set(v, i, x); fault.Err != 0 {
		t.Fatalf("Set(%v, %d, %v) = %v", v, i, x, fault)
	}
}

func box(t testing.TB, h *table.Heap, x api.Value) api.Value {
	t.Helper()
	return thing(t, h, 2, 0, 0, x)
}

func weak(t testing.TB, h *table.Heap, a, b api.Value) api.Value {
	t.Helper()
	return thing(t, h, 8, 0, 0, a, b)
}

func eph(t testing.TB, h *table.Heap, k, v api.Value) api.Value {
	t.Helper()
	return thing(t, h, 9, 0, 0, k, v)
}

func put(t testing.TB, h *table.Heap, m, k, v api.Value) {
	t.Helper()
	if fault := h.TablePut(m, k, v); fault.Err != 0 {
		t.Fatalf("TablePut(%v, %v, %v) = %v", m, k, v, fault)
	}
}

// spineOf is a table's spine.
func spineOf(h *table.Heap, m api.Value) api.Value { return ref(word(h, m.N+2) >> 3) }

// entryOf is the entry with a key, of those that belong to a table.
func entryOf(t testing.TB, h *table.Heap, m, k api.Value) api.Value {
	t.Helper()
	own, _ := h.Block(m.N)
	for b := range h.All() {
		if b.Kind == 13 && b.Tag == own.Serial && word(h, b.At+1) == wordOf(k) {
			return ref(b.At)
		}
	}
	t.Fatalf("the key %v has no entry", k)
	return null
}

func word(h *table.Heap, at int) int {
	w, _ := h.Peek(at)
	return w
}

// with writes a word for as long as a call lasts.
func with(h *table.Heap, at, w int, call func()) {
	old := word(h, at)
	h.Poke(at, w)
	call()
	h.Poke(at, old)
}

// places are those of values, rising.
func places(list []api.Value) []int {
	var out []int
	for _, v := range list {
		out = append(out, v.N)
	}
	slices.Sort(out)
	return out
}

// marks are the marks of values.
func marks(live, dead, weak []api.Value) api.Marks {
	return api.Marks{Live: places(live), Dead: places(dead), Weak: places(weak)}
}

// sweeps tells a fault, if Sweep does not report just this, or the heap behind it is not the one that the plain sweep has.
func sweeps(t testing.TB, promise string, h *table.Heap, m api.Marks, want api.Report) {
	t.Helper()
	d, _, _ := plainSweep(h.Dump(), m)
	if r, fault := Sweep(h, m); fault != (api.Fault{}) || r != want {
		t.Errorf("%s: Sweep(%v) = %v, %v, want %v", promise, m, r, fault, want)
	}
	if !sameDump(d, h.Dump()) {
		t.Errorf("%s: Sweep(%v) has left another heap than it is to", promise, m)
	}
}

// refuses tells a fault, if Sweep does not answer this one, or has changed anything.
func refuses(t testing.TB, promise string, h *table.Heap, m api.Marks, want api.Fault) {
	t.Helper()
	old := h.Dump()
	if r, fault := Sweep(h, m); fault != want || r != (api.Report{}) {
		t.Errorf("%s: Sweep(%v) = %v, %v, want %v", promise, m, r, fault, want)
	}
	if !sameDump(old, h.Dump()) {
		t.Errorf("P1401: Sweep(%v) has changed the heap", m)
	}
}

// plain sweeps as the chapter's words have it, over a dump.
type plain struct {
	d      api.Dump
	blocks map[int]api.Block
}

func newPlain(d api.Dump) *plain {
	p := &plain{d, map[int]api.Block{}}
	for _, b := range d.Blocks {
		p.blocks[b.At] = b
	}
	return p
}

// role is that of a word of an object, as the table of chapter 6 has it.
func role(kind, i int) int {
	list := map[int][]int{4: {1}, 5: {1}, 7: {6}, 8: {3, 2}, 9: {4, 5}, 10: {1, 8}, 11: {6, 7, 1, 1, 2}, 12: {9}, 13: {4, 5, 9}}[kind]
	if list == nil {
		return 2
	}
	return list[min(i, len(list))-1]
}

// read is a word of an object; false: it is wrong.
func (p *plain) read(b api.Block, i int) (api.Value, bool) {
	w := p.d.Words[b.At+i]
	v := api.Value{Kind: w&7 + 1, N: w >> 3}
	to, there := p.blocks[v.N]
	there = there && v.Kind == 2
	switch role(b.Kind, i) {
	case 1:
		return v, true
	case 6:
		return v, v == null || there && to.Kind == 11
	case 7:
		return v, v == null || there && to.Kind == 6 && to.Tag == b.Tag
	case 8:
		return v, v == null || there && to.Kind == 12 && to.Tag == b.Serial
	case 9:
		return v, v == null || there && to.Kind == 13 && to.Tag == b.Tag && (b.Kind == 12 || to.At > b.At)
	}
	return v, there && to.Kind <= 10 || v.Kind != 2 && simple(v)
}

// simple tells whether a value that is no reference has a word.
func simple(v api.Value) bool {
	switch v.Kind {
	case 1:
		return v.N >= -1<<60 && v.N < 1<<60
	case 3:
		return v.N >= 0 && v.N <= 5
	}
	return v.Kind == 4 && v.N >= 0 && v.N <= 0x10FFFF && (v.N < 0xD800 || v.N > 0xDFFF)
}

func headerOf(b api.Block) int {
	x := uint64(b.At)*65536 + uint64(b.Kind)*2048 + uint64(b.Size)
	sign := x * 0x9E3779B97F5 % (1 << 44)
	return int((uint64(b.Kind)+uint64(b.Size)*32+sign*65536)*8 + 5)
}

// taken tells whether marks are some of this heap.
func (p *plain) taken(m api.Marks) bool {
	for _, list := range [][]int{m.Live, m.Dead, m.Weak} {
		if !slices.Equal(list, slices.Compact(slices.Sorted(slices.Values(list)))) {
			return false
		}
	}
	for _, at := range m.Live {
		if _, ok := p.blocks[at]; !ok {
			return false
		}
	}
	for _, at := range m.Dead {
		if kind := p.blocks[at].Kind; !slices.Contains(m.Live, at) || kind != 9 && kind != 13 {
			return false
		}
	}
	for _, at := range m.Weak {
		if !slices.Contains(m.Live, at) || p.blocks[at].Kind != 8 {
			return false
		}
	}
	return true
}

// parts are a table and all that its words lead to, and the indices of the wrong ones of the words that are looked at.
func (p *plain) parts(at int) (out []api.Block, wrong []int) {
	out = []api.Block{p.blocks[at]}
	for n := 0; n < len(out); n++ {
		b := out[n]
		if p.d.Words[b.At] != headerOf(b) {
			wrong = append(wrong, b.At)
		}
		for i := 1; i < b.Size; i++ {
			if role(b.Kind, i) == 5 {
				continue
			}
			v, ok := p.read(b, i)
			if !ok {
				wrong = append(wrong, b.At+i)
			} else if to := p.blocks[v.N]; role(b.Kind, i) >= 8 && v.Kind == 2 && !slices.Contains(out, to) {
				out = append(out, to)
			}
		}
	}
	return out, wrong
}

// prune unlinks what is in dead from a table.
func (p *plain) prune(at int, dead []int) {
	all, _ := p.parts(at)
	count := 0
	for _, b := range all {
		if b.Kind == 13 && slices.Contains(dead, b.At) {
			continue
		}
		if b.Kind == 13 {
			count++
		}
		for i := 1; i < b.Size; i++ {
			for w := &p.d.Words[b.At+i]; role(b.Kind, i) == 9 && *w != nilWord && slices.Contains(dead, *w>>3); {
				*w = p.d.Words[*w>>3+3]
			}
		}
	}
	p.d.Words[at+1] = count
}

// room is how many words the room of an object has.
func room(size int) int {
	if size > 32 {
		return (size + 63) / 64 * 64
	}
	for _, n := range []int{2, 4, 6, 8, 12, 16, 20} {
		if size <= n {
			return n
		}
	}
	return 32
}

// keep frees all but what stands at some places.
func (p *plain) keep(keep []int) api.Dump {
	out := api.Dump{Words: make([]int, len(p.d.Words)), Pages: make([]api.Page, len(p.d.Pages)), Serial: p.d.Serial}
	for _, b := range p.d.Blocks {
		if !slices.Contains(keep, b.At) {
			continue
		}
		out.Blocks = append(out.Blocks, b)
		copy(out.Words[b.At:b.At+room(b.Size)], p.d.Words[b.At:])
		for page := b.At / 64; page*64 < b.At+room(b.Size); page++ {
			out.Pages[page] = p.d.Pages[page]
		}
	}
	links, heads := newPlain(out).links()
	for at, w := range links {
		out.Words[at] = w
	}
	out.Heads = heads
	return out
}

// links are all free blocks, and the words that are to stand there; and the first ones of each class.
func (p *plain) links() (map[int]int, [8]int) {
	out, heads := map[int]int{}, [8]int{}
	for class, size := range []int{2, 4, 6, 8, 12, 16, 20, 32} {
		next := -1
		for n, page := range slices.Backward(p.d.Pages) {
			for i := 64/size - 1; i >= 0 && page == (api.Page{Kind: 1, Class: class}); i-- {
				at := n*64 + i*size
				if _, ok := p.blocks[at]; !ok {
					out[at] = next*8 + 4
					next = at
				}
			}
		}
		heads[class] = next
	}
	return out, heads
}

// wrong are the indices of all wrong words of the heap.
func (p *plain) wrong() []int {
	var out []int
	links, _ := p.links()
	for at, w := range links {
		if p.d.Words[at] != w {
			out = append(out, at)
		}
	}
	for _, b := range p.d.Blocks {
		if p.d.Words[b.At] != headerOf(b) {
			out = append(out, b.At)
		}
		for i := 1; i < b.Size; i++ {
			if _, ok := p.read(b, i); !ok {
				out = append(out, b.At+i)
			}
		}
	}
	slices.Sort(out)
	return out
}

// survey is the least index of a wrong word that a sweep looks at; -1: there is none.
func (p *plain) survey(live []int) int {
	var wrong []int
	for _, at := range live {
		if p.blocks[at].Kind == 10 {
			_, list := p.parts(at)
			wrong = append(wrong, list...)
		}
	}
	if len(wrong) == 0 {
		return -1
	}
	return slices.Min(wrong)
}

func plainSweep(d api.Dump, m api.Marks) (api.Dump, api.Report, api.Fault) {
	p := newPlain(d)
	if !p.taken(m) {
		return d, api.Report{}, api.Fault{Err: 1}
	}
	if at := p.survey(m.Live); at >= 0 {
		return d, api.Report{}, corrupt(at)
	}
	r := api.Report{Broken: len(m.Weak)}
	for _, at := range m.Weak {
		d.Words[at+1] = brokenWord
	}
	keep := slices.Clone(m.Live)
	for _, at := range m.Dead {
		if p.blocks[at].Kind == 9 {
			d.Words[at+1], d.Words[at+2] = brokenWord, brokenWord
			r.Cleared++
			continue
		}
		r.Pruned++
		keep = slices.DeleteFunc(keep, func(x int) bool { return x == at })
	}
	for _, at := range m.Live {
		if p.blocks[at].Kind == 10 {
			p.prune(at, m.Dead)
		}
	}
	out := p.keep(keep)
	for _, b := range d.Blocks {
		if b.Serial > 0 {
			r.Freed++
		}
	}
	for _, b := range out.Blocks {
		if b.Serial > 0 {
			r.Freed--
			r.Kept++
		}
	}
	return out, r, api.Fault{}
}

// past fills a heap without a rule.
type past struct {
	h      *table.Heap
	source *rand.Rand
}

// of is a reference to one of the objects of which something holds; nil, if there is none.
func (x *past) of(holds func(api.Block) bool) api.Value {
	var list []api.Value
	for b := range x.h.All() {
		if holds(b) {
			list = append(list, ref(b.At))
		}
	}
	if len(list) == 0 {
		return null
	}
	return list[x.source.Intn(len(list))]
}

func any(api.Block) bool { return true }

func visible(b api.Block) bool { return b.Kind <= 10 }

// field is a value that may stand in a pair, most often a reference.
func (x *past) field() api.Value {
	switch x.source.Intn(8) {
	case 0:
		return fixnum(x.source.Intn(400))
	case 1:
		return api.Value{Kind: 3, N: x.source.Intn(6)}
	case 2:
		return char(x.source.Intn(400))
	}
	return x.of(visible)
}

// make makes an object; weak things most often.
func (x *past) make() {
	list := []int{1, 2, 3, 5, 6, 7, 8, 8, 8, 9, 9, 9, 9, 9, 10, 10, 11, 11, 12, 13}
	kind, n := list[x.source.Intn(len(list))], 0
	switch kind {
	case 3, 6, 11:
		n = x.source.Intn(4)
		if x.source.Intn(20) == 0 {
			n = 60
		}
	case 12:
		n = 4
	}
	x.h.Make(kind, n, 1+x.source.Intn(4))
}

// fill turns some words of an object by values that are right there, whatever is led astray by that.
func (x *past) fill() {
	b, ok := x.h.Block(x.of(func(b api.Block) bool { return b.Size > 1 }).N)
	if !ok {
		return
	}
	for range 2 {
		i := 1 + x.source.Intn(b.Size-1)
		v := x.of(func(to api.Block) bool { return x.h.Right(b.At, i, to.At*8+1) })
		if b.Kind <= 9 && x.source.Intn(4) == 0 {
			v = x.field()
		}
		x.h.Set(ref(b.At), i, v)
	}
}

// poke makes a word wrong, most likely, of an object or of a free block.
func (x *past) poke() {
	at := x.source.Intn(x.h.Words())
	if b, ok := x.h.Block(x.of(any).N); ok && x.source.Intn(3) > 0 {
		at = b.At + x.source.Intn(b.Size)
	}
	list := []int{0, 2, 4, 5, 6, 7, 50, 1<<20 + 1, at*8 + 1, wordOf(x.of(any)), wordOf(x.of(visible)), int(x.source.Uint64())}
	x.h.Poke(at, list[x.source.Intn(len(list))])
}

// turn changes something.
func (x *past) turn() {
	m := x.of(func(b api.Block) bool { return b.Kind == 10 })
	switch n := x.source.Intn(100); {
	case n < 35:
		x.make()
	case n < 60:
		x.h.TablePut(m, x.field(), x.field())
	case n < 65:
		x.h.TableDelete(m, x.field())
	default:
		x.fill()
	}
}

// roots are a few values, most often references.
func (x *past) roots() []api.Value {
	var out []api.Value
	for range 2 + x.source.Intn(4) {
		out = append(out, x.field())
	}
	return append(out, x.of(func(b api.Block) bool { return b.Kind == 11 }))
}

// guess are marks that no marking told, most often some of this heap.
func (x *past) guess() api.Marks {
	var m api.Marks
	for b := range x.h.All() {
		if x.source.Intn(10) == 0 {
			continue
		}
		m.Live = append(m.Live, b.At)
		if (b.Kind == 9 || b.Kind == 13) && x.source.Intn(3) == 0 {
			m.Dead = append(m.Dead, b.At)
		}
		if b.Kind == 8 && x.source.Intn(3) == 0 {
			m.Weak = append(m.Weak, b.At)
		}
	}
	lists := []*[]int{&m.Live, &m.Dead, &m.Weak}
	list := lists[x.source.Intn(3)]
	if n := len(*list); n > 0 && x.source.Intn(4) == 0 {
		i := x.source.Intn(n)
		(*list)[i] += x.source.Intn(9) - 4
	}
	return m
}

// marking are marks: those of a marking, or others.
func (x *past) marking() (m api.Marks, told bool) {
	if x.source.Intn(3) > 0 {
		if m, fault := mark.Mark(x.h, x.roots()); fault.Err == 0 {
			return m, true
		}
	}
	return x.guess(), false
}
