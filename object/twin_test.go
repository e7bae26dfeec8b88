package object

import (
	"bytes"
	"math/rand"
	"slices"
	"testing"

	"hearth/api"
	"hearth/header"
	"hearth/space"
)

const (
	greatest = 1<<63 - 1
	least    = -1 << 63

	nilWord  = 0*8 + 2
	voidWord = 3*8 + 2
)

var (
	null = api.Value{Kind: 3, N: 0}
	void = api.Value{Kind: 3, N: 3}
)

func fixnum(n int) api.Value { return api.Value{Kind: 1, N: n} }

func ref(at int) api.Value { return api.Value{Kind: 2, N: at} }

// refWord is the word of a reference.
func refWord(v api.Value) int { return v.N*8 + 1 }

// rolesOf are the roles of the words 1, 2, .. of each kind, as chapter 6 has them: the last one goes on, where there are more. s: a value (strong, weak, key or value), r: raw, f: frame, c: function, p: spine, n: chain.
var rolesOf = [14]string{"", "ss", "s", "s", "r", "r", "s", "f", "ss", "ss", "rp", "fcrrs", "n", "ssn"}

// roleOf is the role of an object's word i, '-' if it has none.
func roleOf(b api.Block, i int) byte {
	if i < 1 || i >= b.Size {
		return '-'
	}
	list := rolesOf[b.Kind]
	return list[min(i, len(list))-1]
}

// sizeOf is how many words an object of a kind with n parts has, 0 if there is none.
func sizeOf(kind, n int) int {
	most := [14]int{-1, 0, 0, 1023, 4096, 0, 64, 0, 0, 0, 0, 128, 512, 0}
	if kind < 1 || kind > 13 || n < 0 || n > most[kind] {
		return 0
	}
	switch kind {
	case 3, 6:
		return 1 + n
	case 4:
		return 2 + (n+7)/8
	case 11:
		return 5 + n
	case 12:
		if !slices.Contains([]int{4, 8, 16, 32, 64, 128, 256, 512}, n) {
			return 0
		}
		return 1 + n
	}
	return 1 + len(rolesOf[kind])
}

// twin is a heap as the chapter's words have it, over a space of its own.
type twin struct{ s *space.Space }

func blank(n int) *twin {
	s, _ := space.New(n)
	return &twin{s}
}

func no(errno api.Errno) api.Fault { return api.Fault{Err: errno} }

func (p *twin) right(at, i, w int) bool {
	b, ok := p.s.Block(at)
	if !ok {
		return false
	}
	role := roleOf(b, i)
	if role == '-' || role == 'r' {
		return role == 'r'
	}
	tag, body := w&7, w>>3
	to, there := p.s.Block(body)
	there = there && tag == 1
	switch role {
	case 's':
		return tag == 0 || tag == 2 && body >= 0 && body <= 5 || tag == 3 && (body >= 0 && body < 0xD800 || body > 0xDFFF && body <= 0x10FFFF) || there && to.Kind <= 10
	case 'f':
		return w == nilWord || there && to.Kind == 11
	case 'c':
		return w == nilWord || there && to.Kind == 6 && to.Tag == b.Tag
	case 'p':
		return w == nilWord || there && to.Kind == 12 && to.Tag == b.Serial
	}
	return w == nilWord || there && to.Kind == 13 && to.Tag == b.Tag && (b.Kind == 12 || to.At > b.At)
}

func (p *twin) open(v api.Value) (api.Block, api.Fault) {
	b, ok := p.s.Block(v.N)
	if v.Kind != 2 || !ok {
		return api.Block{}, no(30)
	}
	if w, _ := p.s.Peek(v.N); w != header.Make(b.At, b.Kind, b.Size) {
		return api.Block{}, api.Fault{Err: 21, At: v.N}
	}
	return b, api.Fault{}
}

func (p *twin) make(kind, n, tag int) (api.Value, api.Fault) {
	if kind == 4 || sizeOf(kind, n) == 0 {
		return api.Value{}, no(24)
	}
	at, fault := p.s.Alloc(kind, sizeOf(kind, n), tag)
	if fault.Err != 0 {
		return api.Value{}, fault
	}
	b, _ := p.s.Block(at)
	for i := 1; i < b.Size; i++ {
		switch roleOf(b, i) {
		case 'r':
		case 's':
			p.s.Poke(at+i, voidWord)
		default:
			p.s.Poke(at+i, nilWord)
		}
	}
	return ref(at), api.Fault{}
}

func (p *twin) get(v api.Value, i int) (api.Value, api.Fault) {
	b, fault := p.open(v)
	if fault.Err != 0 {
		return api.Value{}, fault
	}
	if role := roleOf(b, i); role == '-' || role == 'r' {
		return api.Value{}, no(32)
	}
	w, _ := p.s.Peek(v.N + i)
	if !p.right(v.N, i, w) {
		return api.Value{}, api.Fault{Err: 21, At: v.N + i}
	}
	return api.Value{Kind: w&7 + 1, N: w >> 3}, api.Fault{}
}

func (p *twin) set(v api.Value, i int, x api.Value) api.Fault {
	b, fault := p.open(v)
	if fault.Err != 0 {
		return fault
	}
	if role := roleOf(b, i); role == '-' || role == 'r' {
		return no(32)
	}
	w := x.N*8 + x.Kind - 1
	if x.Kind < 1 || x.Kind > 4 || x.N < -1<<60 || x.N >= 1<<60 || !p.right(v.N, i, w) {
		return no(33)
	}
	p.s.Poke(v.N+i, w)
	return api.Fault{}
}

// raw is the index of a raw word.
func (p *twin) raw(v api.Value, i int) (int, api.Fault) {
	b, fault := p.open(v)
	if fault.Err != 0 {
		return 0, fault
	}
	if roleOf(b, i) != 'r' {
		return 0, no(32)
	}
	return v.N + i, api.Fault{}
}

func (p *twin) getRaw(v api.Value, i int) (int, api.Fault) {
	at, fault := p.raw(v, i)
	if fault.Err != 0 {
		return 0, fault
	}
	w, _ := p.s.Peek(at)
	return w, api.Fault{}
}

func (p *twin) setRaw(v api.Value, i, x int) api.Fault {
	at, fault := p.raw(v, i)
	if fault.Err == 0 {
		p.s.Poke(at, x)
	}
	return fault
}

func (p *twin) makeText(b []byte) (api.Value, api.Fault) {
	if len(b) > 4096 {
		return api.Value{}, no(24)
	}
	at, fault := p.s.Alloc(4, sizeOf(4, len(b)), 0)
	if fault.Err != 0 {
		return api.Value{}, fault
	}
	p.s.Poke(at+1, len(b))
	for i, c := range b {
		w, _ := p.s.Peek(at + 2 + i/8)
		p.s.Poke(at+2+i/8, w|int(c)<<(i%8*8))
	}
	return ref(at), api.Fault{}
}

func (p *twin) text(v api.Value) ([]byte, api.Fault) {
	b, fault := p.open(v)
	if fault.Err != 0 {
		return nil, fault
	}
	if b.Kind != 4 {
		return nil, no(31)
	}
	n, _ := p.s.Peek(v.N + 1)
	var out []byte
	for i := 2; i < b.Size; i++ {
		w, _ := p.s.Peek(v.N + i)
		for k := range 8 {
			if len(out) < n {
				out = append(out, byte(w>>(8*k)))
			}
		}
	}
	return out, api.Fault{}
}

// made is a heap that is to be made.
func made(t testing.TB, n int) *Heap {
	t.Helper()
	h, e := New(n)
	if h == nil || e != api.OK {
		t.Fatalf("P901: New(%d): %v, %d", n, h, e)
	}
	return h
}

// object is an object that is to be made.
func object(t testing.TB, h *Heap, kind, n, tag int) api.Value {
	t.Helper()
	v, fault := h.Make(kind, n, tag)
	if fault != (api.Fault{}) || v.Kind != 2 {
		t.Fatalf("P903: Make(%d, %d, %d) = %v, %v", kind, n, tag, v, fault)
	}
	return v
}

// text is a text that is to be made.
func text(t testing.TB, h *Heap, s string) api.Value {
	t.Helper()
	v, fault := h.MakeText([]byte(s))
	if fault != (api.Fault{}) || v.Kind != 2 {
		t.Fatalf("P907: MakeText(%d bytes) = %v, %v", len(s), v, fault)
	}
	return v
}

func sameDump(a, b api.Dump) bool {
	return slices.Equal(a.Words, b.Words) && slices.Equal(a.Pages, b.Pages) && slices.Equal(a.Blocks, b.Blocks) && a.Heads == b.Heads && a.Serial == b.Serial
}

// unchanged makes a call, and tells a fault, if the heap is not as it was.
func unchanged(t testing.TB, what string, h *Heap, call func()) {
	t.Helper()
	old := h.Dump()
	call()
	if !sameDump(old, h.Dump()) {
		t.Errorf("P909: %s has changed the heap", what)
	}
}

// wild are numbers far from all places, kinds and words' numbers; some look like small ones if their upper bits are lost.
func wild() []int {
	return []int{least, least + 1, least + 16, -1 << 61, -1 << 32, 1 - 1<<32, -262144, -64, -3, -2, -1, 262144, 1 << 31, 1<<31 + 1, 1 << 32, 1<<32 + 1, 1<<32 + 3, 1 << 60, 1 << 61, 1<<61 + 1, 1 << 62, greatest - 1, greatest}
}

// strangers are values that have no word.
func strangers() []api.Value {
	return []api.Value{
		{}, {Kind: 0, N: 5}, {Kind: 5, N: 0}, {Kind: -1, N: 0}, {Kind: 1 << 32, N: 0}, {Kind: 1<<32 + 1, N: 0},
		{Kind: 1, N: 1 << 60}, {Kind: 1, N: -1<<60 - 1}, {Kind: 1, N: greatest}, {Kind: 2, N: -1}, {Kind: 2, N: 1 << 60}, {Kind: 2, N: 1 << 61}, {Kind: 2, N: least},
		{Kind: 3, N: 6}, {Kind: 3, N: -1}, {Kind: 4, N: -1}, {Kind: 4, N: 0xD800}, {Kind: 4, N: 0xDFFF}, {Kind: 4, N: 0x110000},
	}
}

// past tells a heap and a plain one the same, without a rule, and looks whether they answer alike.
type past struct {
	h      *Heap
	p      *twin
	source *rand.Rand
}

func begun(h *Heap, n int, seed int64) *past {
	return &past{h, blank(n), rand.New(rand.NewSource(seed))}
}

func (x *past) pick(list []int) int { return list[x.source.Intn(len(list))] }

// place is most often an object's place.
func (x *past) place() int {
	if list := x.p.s.Blocks(); len(list) > 0 && x.source.Intn(12) > 0 {
		return list[x.source.Intn(len(list))].At
	}
	if x.source.Intn(8) == 0 {
		return x.pick(wild())
	}
	return x.source.Intn(x.p.s.Words())
}

// value is most often one that may stand somewhere.
func (x *past) value() api.Value {
	switch x.source.Intn(12) {
	case 0:
		return fixnum(x.source.Intn(9) - 4)
	case 1:
		return null
	case 2:
		return api.Value{Kind: x.source.Intn(7) - 1, N: x.source.Intn(12) - 2}
	case 3:
		list := strangers()
		return list[x.source.Intn(len(list))]
	}
	return ref(x.place())
}

// object is most often a reference to an object.
func (x *past) object() api.Value {
	if x.source.Intn(20) == 0 {
		return x.value()
	}
	return ref(x.place())
}

// field is most often a word's number that the object of v has.
func (x *past) field(v api.Value) int {
	if b, ok := x.p.s.Block(v.N); ok && x.source.Intn(6) > 0 {
		return x.source.Intn(b.Size + 1)
	}
	return x.pick(append(wild(), 0, 1, 2, 3, 4))
}

func (x *past) make() bool {
	kind := x.source.Intn(15)
	n := x.pick([]int{0, 0, 0, 0, 1, 2, 4, 4, 8, 40})
	if (kind == 3 || kind == 6 || kind == 11) && x.source.Intn(3) > 0 {
		n = x.source.Intn(12)
	}
	if x.source.Intn(20) == 0 {
		n = x.pick(wild())
	}
	tag := x.source.Intn(8)
	v, fault := x.h.Make(kind, n, tag)
	want, wantFault := x.p.make(kind, n, tag)
	return v == want && fault == wantFault
}

func (x *past) makeText() bool {
	b := make([]byte, x.source.Intn(40))
	x.source.Read(b)
	v, fault := x.h.MakeText(b)
	want, wantFault := x.p.makeText(b)
	return v == want && fault == wantFault
}

func (x *past) look() bool {
	v := x.object()
	b, fault := x.h.Open(v)
	wantB, wantFault := x.p.open(v)
	if b != wantB || fault != wantFault {
		return false
	}
	s, fault := x.h.Text(v)
	wantS, wantFault := x.p.text(v)
	return bytes.Equal(s, wantS) && fault == wantFault
}

func (x *past) fields() bool {
	v := x.object()
	i, y := x.field(v), x.value()
	got, fault := x.h.Get(v, i)
	want, wantFault := x.p.get(v, i)
	return got == want && fault == wantFault && x.h.Set(v, i, y) == x.p.set(v, i, y)
}

func (x *past) raws() bool {
	v := x.object()
	i, w := x.field(v), x.pick([]int{0, -1, 7, 17, 99, int(x.source.Uint64())})
	got, fault := x.h.Raw(v, i)
	want, wantFault := x.p.getRaw(v, i)
	return got == want && fault == wantFault && x.h.SetRaw(v, i, w) == x.p.setRaw(v, i, w)
}

// word is one of any tag, with a body that matters.
func (x *past) word() int {
	if x.source.Intn(6) == 0 {
		return int(x.source.Uint64())
	}
	return x.place()*8 + x.pick([]int{0, 1, 1, 1, 2, 3, 4, 5, 6, 7})
}

func (x *past) rights() bool {
	at := x.place()
	i, w := x.field(ref(at)), x.word()
	return x.h.Right(at, i, w) == x.p.right(at, i, w)
}

// poke makes a word wrong, or a header right again.
func (x *past) poke() bool {
	at, w := x.place(), x.word()
	if b, ok := x.p.s.Block(at); ok {
		if x.source.Intn(4) > 0 {
			w = header.Make(at, b.Kind, b.Size)
		} else {
			at += x.source.Intn(b.Size)
		}
	}
	return x.h.Poke(at, w) == x.p.s.Poke(at, w)
}

func (x *past) keep() bool {
	var list []int
	part := x.source.Intn(5)
	for _, b := range x.p.s.Blocks() {
		if x.source.Intn(4) < part {
			list = append(list, b.At)
		}
	}
	n, errno := x.h.Keep(list)
	want, wantErrno := x.p.s.Keep(list)
	return n == want && errno == wantErrno
}

// turn is one call, of whatever kind.
func (x *past) turn() bool {
	switch x.source.Intn(16) {
	case 0, 1, 2:
		return x.make()
	case 3:
		return x.makeText()
	case 4, 5:
		return x.look()
	case 6, 7:
		return x.raws()
	case 8, 9:
		return x.poke()
	case 10, 11:
		return x.rights()
	case 12:
		return x.source.Intn(6) > 0 || x.keep()
	}
	return x.fields()
}

func (x *past) alike() bool { return sameDump(x.h.Dump(), x.p.s.Dump()) }

// run makes as many turns; false: they did not answer alike, or were not alike in the end.
func (x *past) run(turns int) bool {
	for range turns {
		if !x.turn() {
			return false
		}
	}
	return x.alike()
}
