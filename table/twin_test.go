package table

import (
	"math/rand"
	"slices"
	"testing"

	"hearth/api"
	"hearth/object"
)

const (
	greatest = 1<<63 - 1
	least    = -1 << 63

	nilWord  = 0*8 + 2
	voidWord = 3*8 + 2
)

var (
	null   = api.Value{Kind: 3, N: 0}
	void   = api.Value{Kind: 3, N: 3}
	nobody = api.Value{}
)

func fixnum(n int) api.Value { return api.Value{Kind: 1, N: n} }

func ref(at int) api.Value { return api.Value{Kind: 2, N: at} }

func char(n int) api.Value { return api.Value{Kind: 4, N: n} }

// wordOf is the word of a value that has one.
func wordOf(v api.Value) int { return v.N*8 + v.Kind - 1 }

func no(errno api.Errno) api.Fault { return api.Fault{Err: errno} }

func corrupt(at int) api.Fault { return api.Fault{Err: 21, At: at} }

// slotOf is which of so many heads a key belongs to, as chapter 11 has it.
func slotOf(k api.Value, serial, heads int) int {
	n := k.N
	if k.Kind == 2 {
		n = serial
	}
	x := uint64(n)*0x9E3779B97F4A7C15 + uint64(k.Kind)*0xC2B2AE3D27D4EB4F
	return int((x/(1<<32) ^ x%(1<<32)) % uint64(heads))
}

// twin is a heap as the chapter's words have it, over a heap of chapter 9 of its own. It goes by indices of words.
type twin struct{ o *object.Heap }

func blank(n int) *twin {
	o, _ := object.New(n)
	return &twin{o}
}

// read is the word i of the object at a place; false: it is wrong.
func (p *twin) read(at, i int) (api.Value, bool) {
	w, _ := p.o.Peek(at + i)
	return api.Value{Kind: w&7 + 1, N: w >> 3}, p.o.Right(at, i, w)
}

func (p *twin) headed(at int) bool { return p.o.Check(at).Err == 0 }

// may tells whether a value may be a key or a value of an entry.
func (p *twin) may(v api.Value) bool {
	switch v.Kind {
	case 1:
		return v.N >= -1<<60 && v.N < 1<<60
	case 2:
		b, ok := p.o.Block(v.N)
		return ok && b.Kind <= 10
	case 3:
		return v.N >= 0 && v.N <= 5
	case 4:
		return v.N >= 0 && v.N < 0xD800 || v.N > 0xDFFF && v.N <= 0x10FFFF
	}
	return false
}

// table is the block of a table.
func (p *twin) table(t api.Value) (api.Block, api.Fault) {
	b, fault := p.o.Open(t)
	if fault.Err == 0 && b.Kind != 10 {
		fault = no(31)
	}
	if fault.Err != 0 {
		return api.Block{}, fault
	}
	return b, api.Fault{}
}

// open is the block of a table, and its spine's, of no words, if there is none.
func (p *twin) open(t api.Value, handed ...api.Value) (own, spine api.Block, fault api.Fault) {
	own, fault = p.table(t)
	if fault.Err != 0 {
		return own, spine, fault
	}
	for _, v := range handed {
		if !p.may(v) {
			return own, spine, no(33)
		}
	}
	v, ok := p.read(t.N, 2)
	if !ok {
		return own, spine, corrupt(t.N + 2)
	}
	if v.Kind != 2 {
		return own, spine, api.Fault{}
	}
	if !p.headed(v.N) {
		return own, spine, corrupt(v.N)
	}
	spine, _ = p.o.Block(v.N)
	return own, spine, api.Fault{}
}

func (p *twin) slot(k api.Value, heads int) int {
	b, _ := p.o.Block(k.N)
	return slotOf(k, b.Serial, heads)
}

// trail is what a walk went over: the indices of the words that led on, the places to which they led, and whether the last one has the key.
type trail struct {
	words, places []int
	found         bool
}

func (p *twin) walk(spine api.Block, k api.Value) (x trail, fault api.Fault) {
	if spine.Size == 0 {
		return x, api.Fault{}
	}
	at, i := spine.At, 1+p.slot(k, spine.Size-1)
	for {
		x.words = append(x.words, at+i)
		to, ok := p.read(at, i)
		if !ok {
			return x, corrupt(at + i)
		}
		if to.Kind != 2 {
			return x, api.Fault{}
		}
		x.places = append(x.places, to.N)
		if !p.headed(to.N) {
			return x, corrupt(to.N)
		}
		key, ok := p.read(to.N, 1)
		if !ok {
			return x, corrupt(to.N + 1)
		}
		if key == k {
			x.found = true
			return x, api.Fault{}
		}
		at, i = to.N, 3
	}
}

// find is open and walk.
func (p *twin) find(t, k api.Value, handed ...api.Value) (own, spine api.Block, x trail, fault api.Fault) {
	own, spine, fault = p.open(t, append([]api.Value{k}, handed...)...)
	if fault.Err == 0 {
		x, fault = p.walk(spine, k)
	}
	return own, spine, x, fault
}

func (x trail) last() int { return x.places[len(x.places)-1] }

func (p *twin) get(t, k api.Value) (api.Value, bool, api.Fault) {
	_, _, x, fault := p.find(t, k)
	if fault.Err != 0 || !x.found {
		return nobody, false, fault
	}
	v, ok := p.read(x.last(), 2)
	if !ok {
		return nobody, false, corrupt(x.last() + 2)
	}
	return v, true, api.Fault{}
}

func (p *twin) count(t api.Value) (int, api.Fault) {
	if _, fault := p.table(t); fault.Err != 0 {
		return 0, fault
	}
	n, _ := p.o.Peek(t.N + 1)
	return n, api.Fault{}
}

// bigger is how many heads the next spine has; 0: the table does not grow.
func (p *twin) bigger(own, spine api.Block) int {
	n, _ := p.o.Peek(own.At + 1)
	if spine.Size == 0 {
		return 4
	}
	if heads := spine.Size - 1; heads < 512 && n >= 2*heads {
		return 2 * heads
	}
	return 0
}

func (p *twin) sizes(own, spine api.Block) []int {
	if n := p.bigger(own, spine); n > 0 {
		return []int{1 + n, 4}
	}
	return []int{4}
}

func (p *twin) needs(t, k api.Value) ([]int, api.Fault) {
	own, spine, x, fault := p.find(t, k)
	if fault.Err != 0 || x.found {
		return nil, fault
	}
	return p.sizes(own, spine), api.Fault{}
}

// all are the places of the entries to which the rows come, rising.
func (p *twin) all(spine api.Block) ([]int, api.Fault) {
	var out []int
	for i := 1; i < spine.Size; i++ {
		at, word := spine.At, i
		for {
			to, ok := p.read(at, word)
			if !ok {
				return nil, corrupt(at + word)
			}
			if to.Kind != 2 || slices.Contains(out, to.N) {
				break
			}
			if !p.headed(to.N) {
				return nil, corrupt(to.N)
			}
			if _, ok := p.read(to.N, 1); !ok {
				return nil, corrupt(to.N + 1)
			}
			out = append(out, to.N)
			at, word = to.N, 3
		}
	}
	slices.Sort(out)
	return out, api.Fault{}
}

// join writes a row: its head, at an index, and the chains of its entries, rising.
func (p *twin) join(head int, row []int) {
	slices.Sort(row)
	for _, at := range row {
		p.o.Poke(head, at*8+1)
		head = at + 3
	}
	p.o.Poke(head, nilWord)
}

func (p *twin) put(t, k, v api.Value) api.Fault {
	own, spine, x, fault := p.find(t, k, v)
	if fault.Err != 0 {
		return fault
	}
	if x.found {
		p.o.Poke(x.last()+2, wordOf(v))
		return api.Fault{}
	}
	heads := p.bigger(own, spine)
	var old []int
	if heads > 0 {
		if old, fault = p.all(spine); fault.Err != 0 {
			return fault
		}
	}
	if !p.o.Fits(p.sizes(own, spine)...) {
		return no(20)
	}
	if heads > 0 {
		to, fault := p.o.Make(12, heads, own.Serial)
		if fault.Err != 0 {
			return fault
		}
		spine, _ = p.o.Block(to.N)
	}
	e, fault := p.o.Make(13, 0, own.Serial)
	if fault.Err != 0 {
		return fault
	}
	p.o.Poke(e.N+1, wordOf(k))
	p.o.Poke(e.N+2, wordOf(v))
	slot := p.slot(k, spine.Size-1)
	if heads > 0 {
		p.o.Poke(t.N+2, spine.At*8+1)
		list := make([][]int, heads)
		for _, at := range old {
			key, _ := p.read(at, 1)
			list[p.slot(key, heads)] = append(list[p.slot(key, heads)], at)
		}
		list[slot] = append(list[slot], e.N)
		for i, row := range list {
			p.join(spine.At+1+i, row)
		}
	} else {
		p.join(spine.At+1+slot, append(x.places, e.N))
	}
	n, _ := p.o.Peek(t.N + 1)
	p.o.Poke(t.N+1, n+1)
	return api.Fault{}
}

func (p *twin) delete(t, k api.Value) (bool, api.Fault) {
	_, _, x, fault := p.find(t, k)
	if fault.Err != 0 || !x.found {
		return false, fault
	}
	to, ok := p.read(x.last(), 3)
	if !ok {
		return false, corrupt(x.last() + 3)
	}
	p.o.Poke(x.words[len(x.words)-1], wordOf(to))
	n, _ := p.o.Peek(t.N + 1)
	p.o.Poke(t.N+1, n-1)
	return true, api.Fault{}
}

func (p *twin) prune(t api.Value, dead []int) (int, api.Fault) {
	_, spine, fault := p.open(t)
	if fault.Err != 0 {
		return 0, fault
	}
	all, fault := p.all(spine)
	if fault.Err != 0 {
		return 0, fault
	}
	gone := 0
	var words []int
	for i := 1; i < spine.Size; i++ {
		words = append(words, spine.At+i)
	}
	for _, at := range all {
		if slices.Contains(dead, at) {
			gone++
		} else {
			words = append(words, at+3)
		}
	}
	for _, at := range words {
		w, _ := p.o.Peek(at)
		for w != nilWord && slices.Contains(dead, w>>3) {
			w, _ = p.o.Peek(w>>3 + 3)
		}
		p.o.Poke(at, w)
	}
	p.o.Poke(t.N+1, len(all)-gone)
	return gone, api.Fault{}
}

// survey is what is told of an object, and all wrong words that were met.
type survey struct {
	p     *twin
	wrong []int
}

func (s *survey) field(at, i int) api.Value {
	if !s.p.headed(at) {
		s.wrong = append(s.wrong, at)
	}
	v, ok := s.p.read(at, i)
	if !ok {
		s.wrong = append(s.wrong, at+i)
		return null
	}
	return v
}

// serialized is a value whose reference is told by a serial.
func (p *twin) serialized(v api.Value) api.Value {
	if b, ok := p.o.Block(v.N); ok && v.Kind == 2 {
		v.N = b.Serial
	}
	return v
}

func (s *survey) entries(t int) []api.Entry {
	type one struct {
		place int
		key   api.Value
	}
	var list []one
	seen := map[int]int{}
	spine := s.field(t, 2)
	if spine.Kind != 2 {
		return nil
	}
	b, _ := s.p.o.Block(spine.N)
	for i := 1; i < b.Size; i++ {
		e := s.field(spine.N, i)
		for e.Kind == 2 && seen[e.N] == 0 {
			seen[e.N] = 1
			list = append(list, one{e.N, s.field(e.N, 1)})
			s.field(e.N, 2)
			e = s.field(e.N, 3)
		}
	}
	slices.SortFunc(list, func(a, b one) int {
		x, y := s.p.serialized(a.key), s.p.serialized(b.key)
		for _, d := range []int{x.Kind - y.Kind, x.N - y.N, a.place - b.place} {
			if d != 0 {
				return d
			}
		}
		return 0
	})
	var out []api.Entry
	for _, e := range list {
		out = append(out, api.Entry{Key: e.key, Value: s.field(e.place, 2)})
	}
	return out
}

func (p *twin) node(v api.Value) (api.Node, api.Fault) {
	b, fault := p.o.Open(v)
	if fault.Err != 0 {
		return api.Node{}, fault
	}
	if b.Kind > 11 {
		return api.Node{}, no(31)
	}
	s := &survey{p: p}
	n := api.Node{Id: b.Serial, Kind: b.Kind}
	peek := func(i int) int { w, _ := p.o.Peek(b.At + i); return w }
	first := 1
	switch b.Kind {
	case 4:
		text, _ := p.o.Text(v)
		for _, c := range text {
			n.Raw = append(n.Raw, int(c))
		}
		first = b.Size
	case 5:
		n.Raw = []int{peek(1)}
		first = b.Size
	case 6:
		n.Raw = []int{b.Tag}
	case 10:
		n.Entries = s.entries(b.At)
		first = b.Size
	case 11:
		n.Raw = []int{b.Tag, peek(3), peek(4)}
		n.Fields = []api.Value{s.field(b.At, 1), s.field(b.At, 2)}
		first = 5
	}
	for i := first; i < b.Size; i++ {
		n.Fields = append(n.Fields, s.field(b.At, i))
	}
	if len(s.wrong) > 0 {
		return api.Node{}, corrupt(slices.Min(s.wrong))
	}
	return n, api.Fault{}
}

func (p *twin) graph(roots []api.Value) (api.Graph, api.Fault) {
	var g api.Graph
	for _, v := range roots {
		b, ok := p.o.Block(v.N)
		if v.Kind == 2 && (!ok || b.Kind > 11) || v.Kind != 2 && !p.may(v) {
			return api.Graph{}, no(33)
		}
		g.Roots = append(g.Roots, p.serialized(v))
	}
	var wrong []int
	for serial := 1; serial <= p.o.Dump().Serial; serial++ {
		at, ok := p.o.Find(serial)
		if !ok {
			continue
		}
		n, fault := p.node(ref(at))
		if fault.Err != 0 {
			wrong = append(wrong, fault.At)
		}
		for i, v := range n.Fields {
			n.Fields[i] = p.serialized(v)
		}
		for i, e := range n.Entries {
			n.Entries[i] = api.Entry{Key: p.serialized(e.Key), Value: p.serialized(e.Value)}
		}
		g.Nodes = append(g.Nodes, n)
	}
	if len(wrong) > 0 {
		return api.Graph{}, corrupt(slices.Min(wrong))
	}
	return g, api.Fault{}
}

func sameNode(a, b api.Node) bool {
	return a.Id == b.Id && a.Kind == b.Kind && slices.Equal(a.Raw, b.Raw) && slices.Equal(a.Fields, b.Fields) && slices.Equal(a.Entries, b.Entries)
}

func sameGraph(a, b api.Graph) bool {
	return slices.EqualFunc(a.Nodes, b.Nodes, sameNode) && slices.Equal(a.Roots, b.Roots)
}

func sameDump(a, b api.Dump) bool {
	return slices.Equal(a.Words, b.Words) && slices.Equal(a.Pages, b.Pages) && slices.Equal(a.Blocks, b.Blocks) && a.Heads == b.Heads && a.Serial == b.Serial
}

// heap is a heap that is to be made.
func heap(t testing.TB, n int) *Heap {
	t.Helper()
	h, e := New(n)
	if h == nil || e != api.OK {
		t.Fatalf("P1201: New(%d): %v, %d", n, h, e)
	}
	return h
}

// thing is an object that is to be made.
func thing(t testing.TB, h *Heap, kind, n, tag int) api.Value {
	t.Helper()
	v, fault := h.Make(kind, n, tag)
	if fault != (api.Fault{}) || v.Kind != 2 {
		t.Fatalf("Make(%d, %d, %d) = %v, %v", kind, n, tag, v, fault)
	}
	return v
}

// box is a box that is to be made.
func box(t testing.TB, h *Heap) api.Value {
	t.Helper()
	return thing(t, h, 2, 0, 0)
}

// empty is a table that is to be made.
func empty(t testing.TB, h *Heap) api.Value {
	t.Helper()
	v, fault := h.MakeTable()
	if fault != (api.Fault{}) || v.Kind != 2 {
		t.Fatalf("P1201: MakeTable() = %v, %v", v, fault)
	}
	return v
}

// put is a put that is to go well.
func put(t testing.TB, h *Heap, m, k, v api.Value) {
	t.Helper()
	if fault := h.TablePut(m, k, v); fault != (api.Fault{}) {
		t.Fatalf("P1206: TablePut(%v, %v, %v) = %v", m, k, v, fault)
	}
}

// unchanged makes a call, and tells a fault, if the heap is not as it was.
func unchanged(t testing.TB, what string, h *Heap, call func()) {
	t.Helper()
	old := h.Dump()
	call()
	if !sameDump(old, h.Dump()) {
		t.Errorf("%s has changed the heap", what)
	}
}

// turned makes a call, and is the indices of the words that are others behind it.
func turned(h *Heap, call func()) []int {
	old := h.Dump().Words
	call()
	var out []int
	for at, w := range h.Dump().Words {
		if w != old[at] {
			out = append(out, at)
		}
	}
	return out
}

// with writes a word for as long as a call lasts.
func with(h *Heap, at, w int, call func()) {
	old, _ := h.Peek(at)
	h.Poke(at, w)
	call()
	h.Poke(at, old)
}

// word is a word of the arena.
func word(h *Heap, at int) int {
	w, _ := h.Peek(at)
	return w
}

// spineOf is the place of a table's spine.
func spineOf(h *Heap, m api.Value) int { return word(h, m.N+2) >> 3 }

// entryOf is the place of the entry with a key, of those that belong to a table.
func entryOf(t testing.TB, h *Heap, m, k api.Value) int {
	t.Helper()
	own, _ := h.Block(m.N)
	for _, b := range h.Blocks() {
		if b.Kind == 13 && b.Tag == own.Serial && word(h, b.At+1) == wordOf(k) {
			return b.At
		}
	}
	t.Fatalf("the key %v has no entry", k)
	return 0
}

// rowOf are the places of the entries in a row of a spine.
func rowOf(h *Heap, spine, slot int) []int {
	var out []int
	for w := word(h, spine+1+slot); w != nilWord; w = word(h, w>>3+3) {
		out = append(out, w>>3)
	}
	return out
}

// alike are the first fixnums from a number on that belong to one of so many heads.
func alike(from, slot, heads, count int) []api.Value {
	var out []api.Value
	for n := from; len(out) < count; n++ {
		if slotOf(fixnum(n), 0, heads) == slot {
			out = append(out, fixnum(n))
		}
	}
	return out
}

// wild are numbers far from all places; some look like small ones if their upper bits are lost.
func wild() []int {
	return []int{least, least + 1, least + 16, -1 << 61, -1 << 32, 1 - 1<<32, -262144, -64, -3, -2, -1, 262144, 1 << 31, 1<<31 + 1, 1 << 32, 1<<32 + 1, 1<<32 + 3, 1 << 60, 1 << 61, 1<<61 + 1, 1 << 62, greatest - 1, greatest}
}

// strangers are values that have no word.
func strangers() []api.Value {
	return []api.Value{
		{}, {Kind: 0, N: 5}, {Kind: 5, N: 0}, {Kind: -1, N: 0}, {Kind: 1 << 32, N: 0}, {Kind: 1<<32 + 1, N: 0}, {Kind: 1<<32 + 2, N: 0},
		{Kind: 1, N: 1 << 60}, {Kind: 1, N: -1<<60 - 1}, {Kind: 1, N: greatest}, {Kind: 2, N: -1}, {Kind: 2, N: 1 << 60}, {Kind: 2, N: 1 << 61}, {Kind: 2, N: least},
		{Kind: 3, N: 6}, {Kind: 3, N: -1}, {Kind: 4, N: -1}, {Kind: 4, N: 0xD800}, {Kind: 4, N: 0xDFFF}, {Kind: 4, N: 0x110000},
	}
}

// past tells a heap and a plain one the same, without a rule, and looks whether they answer alike.
type past struct {
	h      *Heap
	p      *twin
	source *rand.Rand
	undo   [][2]int // words that were poked, and what stood there
}

func begun(h *Heap, n int, seed int64) *past {
	return &past{h: h, p: blank(n), source: rand.New(rand.NewSource(seed))}
}

func (x *past) pick(list []int) int { return list[x.source.Intn(len(list))] }

// of is one of the objects of which something holds.
func (x *past) of(holds func(api.Block) bool) (api.Block, bool) {
	var list []api.Block
	for b := range x.p.o.All() {
		if holds(b) {
			list = append(list, b)
		}
	}
	if len(list) == 0 {
		return api.Block{}, false
	}
	return list[x.source.Intn(len(list))], true
}

// object is a reference to an object, but for a few.
func (x *past) object() api.Value {
	if b, ok := x.of(func(api.Block) bool { return true }); ok && x.source.Intn(20) > 0 {
		return ref(b.At)
	}
	if x.source.Intn(3) == 0 {
		list := strangers()
		return list[x.source.Intn(len(list))]
	}
	return ref(x.pick(append(wild(), 0, 1, 2, 3, 64)))
}

// table is a reference to a table, but for a few.
func (x *past) table() api.Value {
	if b, ok := x.of(func(b api.Block) bool { return b.Kind == 10 }); ok && x.source.Intn(40) > 0 {
		return ref(b.At)
	}
	return x.object()
}

// key is most often one of a few.
func (x *past) key() api.Value {
	switch x.source.Intn(10) {
	case 0:
		return x.object()
	case 1, 2:
		if b, ok := x.of(func(b api.Block) bool { return b.Kind <= 10 }); ok {
			return ref(b.At)
		}
	case 3:
		return char(x.source.Intn(6))
	case 4:
		return api.Value{Kind: 3, N: x.source.Intn(7)}
	}
	return fixnum(x.source.Intn(40) - 5)
}

func (x *past) make() bool {
	kind := x.pick([]int{1, 2, 2, 2, 3, 5, 6, 7, 8, 9, 10, 10, 11, 12, 13})
	n := 0
	switch kind {
	case 3, 6, 11:
		n = x.source.Intn(5)
	case 12:
		n = x.pick([]int{4, 4, 8, 16, 5})
	}
	tag := x.source.Intn(6)
	v, fault := x.h.Make(kind, n, tag)
	w, wantFault := x.p.o.Make(kind, n, tag)
	return v == w && fault == wantFault
}

func (x *past) makeTable() bool {
	v, fault := x.h.MakeTable()
	w, wantFault := x.p.o.Make(10, 0, 0)
	return v == w && fault == wantFault
}

func (x *past) makeText() bool {
	b := make([]byte, x.source.Intn(12))
	x.source.Read(b)
	v, fault := x.h.MakeText(b)
	w, wantFault := x.p.o.MakeText(b)
	return v == w && fault == wantFault
}

func (x *past) put() bool {
	t, k, v := x.table(), x.key(), x.key()
	return x.h.TablePut(t, k, v) == x.p.put(t, k, v)
}

func (x *past) get() bool {
	t, k := x.table(), x.key()
	v, ok, fault := x.h.TableGet(t, k)
	w, wantOk, wantFault := x.p.get(t, k)
	return v == w && ok == wantOk && fault == wantFault
}

func (x *past) needs() bool {
	t, k := x.table(), x.key()
	list, fault := x.h.PutNeeds(t, k)
	w, wantFault := x.p.needs(t, k)
	n, countFault := x.h.TableCount(t)
	m, wantCountFault := x.p.count(t)
	return slices.Equal(list, w) && fault == wantFault && n == m && countFault == wantCountFault
}

func (x *past) delete() bool {
	t, k := x.table(), x.key()
	ok, fault := x.h.TableDelete(t, k)
	w, wantFault := x.p.delete(t, k)
	return ok == w && fault == wantFault
}

func (x *past) prune() bool {
	t := x.table()
	dead := []int{x.pick(wild()), x.source.Intn(99)}
	part := x.source.Intn(4)
	for b := range x.p.o.All() {
		if b.Kind == 13 && x.source.Intn(4) < part {
			dead = append(dead, b.At)
		}
	}
	n, fault := x.h.Prune(t, dead)
	w, wantFault := x.p.prune(t, dead)
	return n == w && fault == wantFault
}

func (x *past) node() bool {
	v := x.object()
	if x.source.Intn(2) == 0 {
		v = x.table()
	}
	n, fault := x.h.Node(v)
	w, wantFault := x.p.node(v)
	return sameNode(n, w) && fault == wantFault
}

func (x *past) graph() bool {
	var roots []api.Value
	for range x.source.Intn(4) {
		if b, ok := x.of(func(b api.Block) bool { return b.Kind <= 11 }); ok {
			roots = append(roots, ref(b.At))
		}
	}
	if x.source.Intn(4) == 0 {
		roots = append(roots, x.key())
	}
	g, fault := x.h.Graph(roots)
	w, wantFault := x.p.graph(roots)
	return sameGraph(g, w) && fault == wantFault
}

// count turns a table's count, so that it tells nothing.
func (x *past) count() bool {
	t, n := x.table(), x.pick([]int{0, 7, 8, 15, 16, 40, -1, greatest, least})
	return x.h.SetRaw(t, 1, n) == x.p.o.SetRaw(t, 1, n)
}

// astray turns a word by a right value, if there is one: heads, chains and spines lead elsewhere then.
func (x *past) astray() bool {
	b, ok := x.of(func(b api.Block) bool { return b.Kind == 10 || b.Kind >= 12 })
	if !ok {
		return true
	}
	i := map[int]int{10: 2, 12: 1 + x.source.Intn(b.Size-1), 13: 1 + 2*x.source.Intn(2)}[b.Kind]
	v := null
	if to, ok := x.of(func(to api.Block) bool { return x.p.o.Right(b.At, i, to.At*8+1) }); ok && x.source.Intn(8) > 0 {
		v = ref(to.At)
	}
	return x.h.Set(ref(b.At), i, v) == x.p.o.Set(ref(b.At), i, v)
}

// poke makes a word wrong, most likely, and mends it some turns later.
func (x *past) poke() bool {
	at := x.source.Intn(x.p.o.Words())
	if b, ok := x.of(func(b api.Block) bool { return b.Kind >= 10 || x.source.Intn(3) == 0 }); ok && x.source.Intn(4) > 0 {
		at = b.At + x.source.Intn(b.Size)
	}
	if heads := x.p.o.Dump().Heads; x.source.Intn(4) == 0 { // the link of a free block that is taken next
		at = max(heads[x.source.Intn(5)], 0)
	}
	w := x.pick([]int{0, 2, 4, 5, 6, 7, 50, 1<<20 + 1, at*8 + 1, (at-1)*8 + 1, (at+1)*8 + 1, int(x.source.Uint64())})
	x.undo = append(x.undo, [2]int{at, word(x.h, at)})
	return x.h.Poke(at, w) == x.p.o.Poke(at, w)
}

// mend puts back what was poked.
func (x *past) mend() bool {
	slices.Reverse(x.undo)
	for _, u := range x.undo {
		if x.h.Poke(u[0], u[1]) != x.p.o.Poke(u[0], u[1]) {
			return false
		}
	}
	x.undo = nil
	return true
}

// used are the places of the tables, and of what their right words come to.
func (p *twin) used() map[int]int {
	out := map[int]int{}
	for b := range p.o.All() {
		if b.Kind != 10 {
			continue
		}
		out[b.At] = 1
		_, spine, _ := p.open(ref(b.At))
		out[spine.At] = 1
		list, _ := p.all(spine)
		for _, at := range list {
			key, _ := p.read(at, 1)
			v, _ := p.read(at, 2)
			out[at], out[key.N], out[v.N] = 1, 1, 1
		}
	}
	return out
}

// keep frees some objects, so that places are taken again: most often such as no table has, else any, and what has referred to them is wrong then.
func (x *past) keep() bool {
	var list []int
	part, used := x.source.Intn(4), x.p.used()
	clean := x.source.Intn(8) > 0
	for b := range x.p.o.All() {
		if clean && used[b.At] > 0 || x.source.Intn(4) < part && (b.Kind < 12 || !clean) {
			list = append(list, b.At)
		}
	}
	x.undo = nil
	n, errno := x.h.Keep(list)
	w, wantErrno := x.p.o.Keep(list)
	return n == w && errno == wantErrno
}

// anew lets all tables begin again, without a spine.
func (x *past) anew() bool {
	for b := range x.p.o.All() {
		if b.Kind == 10 {
			x.h.Poke(b.At+2, nilWord)
			x.p.o.Poke(b.At+2, nilWord)
		}
	}
	return true
}

// turn is one call, of whatever kind.
func (x *past) turn() bool {
	switch n := x.source.Intn(100); {
	case n < 5:
		return x.make()
	case n < 6:
		return x.makeTable()
	case n < 7:
		return x.makeText()
	case n < 50:
		return x.put()
	case n < 62:
		return x.get()
	case n < 67:
		return x.needs()
	case n < 76:
		return x.delete()
	case n < 79:
		return x.prune()
	case n < 84:
		return x.node()
	case n < 86:
		return x.graph()
	case n < 87:
		return x.count()
	case n < 88:
		return x.astray()
	case n < 90:
		return x.poke()
	case n < 95:
		return x.mend()
	case n < 96:
		return x.source.Intn(3) > 0 || x.anew()
	}
	return x.keep()
}

func (x *past) same() bool { return sameDump(x.h.Dump(), x.p.o.Dump()) }

// run makes as many turns; false: they did not answer alike, or were not alike in the end.
func (x *past) run(turns int) bool {
	for range turns {
		if !x.turn() {
			return false
		}
	}
	return x.same()
}
