package space

import (
	"math/rand"
	"slices"
	"testing"

	"hearth/api"
	"hearth/header"
	"hearth/layout"
	"hearth/value"
)

const (
	greatest = 1<<63 - 1
	least    = -1 << 63
)

// blockWords are the words of the blocks of each class, as chapter 4 has them.
var blockWords = [8]int{2, 4, 6, 8, 12, 16, 20, 32}

// plain is a space as the chapter's words have it: lists that are gone over again for each answer.
type plain struct {
	words  []int
	pages  []api.Page
	blocks []api.Block // rising
	serial int
}

func blank(n int) *plain {
	return &plain{words: make([]int, 64*n), pages: make([]api.Page, n)}
}

func (p *plain) copy() *plain {
	return &plain{slices.Clone(p.words), slices.Clone(p.pages), slices.Clone(p.blocks), p.serial}
}

// classOf is the class of an object of up to 32 words.
func classOf(size int) int {
	for c, words := range blockWords {
		if size <= words {
			return c
		}
	}
	return 8
}

// roomOf is how many words the room of an object has.
func roomOf(size int) int {
	if size > 32 {
		return (size + 63) / 64 * 64
	}
	return blockWords[classOf(size)]
}

func (p *plain) block(at int) (api.Block, bool) {
	for _, b := range p.blocks {
		if b.At == at {
			return b, true
		}
	}
	return api.Block{}, false
}

func (p *plain) find(serial int) (int, bool) {
	for _, b := range p.blocks {
		if serial > 0 && b.Serial == serial {
			return b.At, true
		}
	}
	return 0, false
}

// free are the free blocks of a class, rising, and -1 behind the last one.
func (p *plain) free(c int) []int {
	taken := map[int]int{}
	for _, b := range p.blocks {
		taken[b.At]++
	}
	var out []int
	for page, state := range p.pages {
		for at := page * 64; state.Kind == 1 && state.Class == c && at+blockWords[c] <= page*64+64; at += blockWords[c] {
			if taken[at] == 0 {
				out = append(out, at)
			}
		}
	}
	return append(out, -1)
}

// row is the lowest row of n free pages, -1 if there is none.
func (p *plain) row(n int) int {
	for page := 0; page+n <= len(p.pages); page++ {
		if !slices.ContainsFunc(p.pages[page:page+n], func(x api.Page) bool { return x.Kind != 0 }) {
			return page
		}
	}
	return -1
}

func (p *plain) alloc(kind, size, tag int) (int, api.Fault) {
	if !layout.Fits(kind, size) {
		return 0, api.Fault{Err: 24}
	}
	take := p.takeSmall
	if size > 32 {
		take = p.takeLarge
	}
	place, fault := take(size)
	if fault.Err != 0 {
		return 0, fault
	}
	b := api.Block{At: place, Kind: kind, Size: size, Tag: tag}
	if kind <= 11 {
		p.serial++
		b.Serial = p.serial
	}
	for i := range roomOf(size) {
		p.words[place+i] = 0
	}
	p.words[place] = header.Make(place, kind, size)
	p.blocks = append(p.blocks, b)
	slices.SortFunc(p.blocks, func(a, b api.Block) int { return a.At - b.At })
	return place, api.Fault{}
}

func (p *plain) takeLarge(size int) (int, api.Fault) {
	n := roomOf(size) / 64
	head := p.row(n)
	if head < 0 {
		return 0, api.Fault{Err: 20}
	}
	for page := head; page < head+n; page++ {
		p.pages[page] = api.Page{Kind: 3}
	}
	p.pages[head] = api.Page{Kind: 2, Run: n}
	return head * 64, api.Fault{}
}

func (p *plain) takeSmall(size int) (int, api.Fault) {
	c := classOf(size)
	if list := p.free(c); list[0] >= 0 {
		if p.words[list[0]] != value.Link(list[1]) {
			return 0, api.Fault{Err: 21, At: list[0]}
		}
		return list[0], api.Fault{}
	}
	page := p.row(1)
	if page < 0 {
		return 0, api.Fault{Err: 20}
	}
	p.pages[page] = api.Page{Kind: 1, Class: c}
	for i := range 64 {
		p.words[page*64+i] = 0
	}
	list := p.free(c)[1:]
	for i := range len(list) - 1 {
		p.words[list[i]] = value.Link(list[i+1])
	}
	return page * 64, api.Fault{}
}

// fits takes objects of these sizes in a copy whose links are right.
func (p *plain) fits(sizes ...int) bool {
	p = p.copy()
	p.link()
	for _, size := range sizes {
		if size < 1 || size > 1024 {
			return false
		}
		if _, fault := p.alloc(api.KindVector, size, 0); fault.Err != 0 {
			return false
		}
	}
	return true
}

func (p *plain) link() {
	for c := range 8 {
		list := p.free(c)
		for i := range len(list) - 1 {
			p.words[list[i]] = value.Link(list[i+1])
		}
	}
}

func (p *plain) keep(keep []int) (int, api.Errno) {
	for _, at := range keep {
		if _, ok := p.block(at); !ok {
			return 0, 22
		}
	}
	old := p.copy()
	p.blocks, p.words = nil, make([]int, len(p.words))
	p.pages = make([]api.Page, len(p.pages))
	for _, b := range old.blocks {
		if !slices.Contains(keep, b.At) {
			continue
		}
		p.blocks = append(p.blocks, b)
		copy(p.words[b.At:b.At+roomOf(b.Size)], old.words[b.At:])
		for page := b.At / 64; page*64 < b.At+roomOf(b.Size); page++ {
			p.pages[page] = old.pages[page]
		}
	}
	p.link()
	return len(old.blocks) - len(p.blocks), 0
}

func (p *plain) check(at int) api.Fault {
	b, ok := p.block(at)
	if !ok {
		return api.Fault{Err: 22}
	}
	if p.words[at] != header.Make(at, b.Kind, b.Size) {
		return api.Fault{Err: 21, At: at}
	}
	return api.Fault{}
}

func (p *plain) read(at, i int) (int, api.Fault) {
	if fault := p.check(at); fault.Err != 0 {
		return 0, fault
	}
	if b, _ := p.block(at); i < 1 || i >= b.Size {
		return 0, api.Fault{Err: 23}
	}
	return p.words[at+i], api.Fault{}
}

func (p *plain) write(at, i, w int) api.Fault {
	_, fault := p.read(at, i)
	if fault.Err == 0 {
		p.words[at+i] = w
	}
	return fault
}

func (p *plain) wrong() int {
	wrong := []int{}
	for _, b := range p.blocks {
		if p.check(b.At).Err != 0 {
			wrong = append(wrong, b.At)
		}
	}
	for c := range 8 {
		list := p.free(c)
		for i := range len(list) - 1 {
			if p.words[list[i]] != value.Link(list[i+1]) {
				wrong = append(wrong, list[i])
			}
		}
	}
	if len(wrong) == 0 {
		return -1
	}
	return slices.Min(wrong)
}

func (p *plain) use() float64 {
	sum := 0
	for _, b := range p.blocks {
		sum += roomOf(b.Size)
	}
	return float64(sum) / float64(len(p.words))
}

func (p *plain) heads() [8]int {
	var out [8]int
	for c := range out {
		out[c] = p.free(c)[0]
	}
	return out
}

// made is a space of so many pages.
func made(t testing.TB, n int) *Space {
	t.Helper()
	s, e := New(n)
	if s == nil || e != api.OK {
		t.Fatalf("P801: New(%d): %v, %d", n, s, e)
	}
	return s
}

// taken is the place of an object that is to be taken.
func taken(t testing.TB, s *Space, kind, size int) int {
	t.Helper()
	at, fault := s.Alloc(kind, size, 0)
	if fault != (api.Fault{}) {
		t.Fatalf("P806: Alloc(%d, %d, 0): %v", kind, size, fault)
	}
	return at
}

// vectors are the places of as many vectors of a size.
func vectors(t testing.TB, s *Space, size, count int) []int {
	t.Helper()
	var out []int
	for range count {
		out = append(out, taken(t, s, api.KindVector, size))
	}
	return out
}

// sameDump tells whether two dumps are alike.
func sameDump(a, b api.Dump) bool {
	return slices.Equal(a.Words, b.Words) && slices.Equal(a.Pages, b.Pages) && slices.Equal(a.Blocks, b.Blocks) && a.Heads == b.Heads && a.Serial == b.Serial
}

// same tells a fault, if anything that can be asked of the space is not as p has it.
func same(t testing.TB, what string, s *Space, p *plain) {
	t.Helper()
	want := api.Dump{Words: p.words, Pages: p.pages, Blocks: p.blocks, Heads: p.heads(), Serial: p.serial}
	if got := s.Dump(); !sameDump(got, want) {
		t.Fatalf("P813: %s: Dump() = %v, want %v", what, got, want)
	}
	if s.Words() != len(p.words) || s.Wrong() != p.wrong() || s.Use() != p.use() {
		t.Fatalf("P801, P811, P812: %s: %d words, %d wrong, %v used, want %d, %d, %v", what, s.Words(), s.Wrong(), s.Use(), len(p.words), p.wrong(), p.use())
	}
	if got := s.Blocks(); !slices.Equal(got, p.blocks) || !slices.Equal(slices.Collect(s.All()), p.blocks) {
		t.Fatalf("P810: %s: Blocks() = %v, All() = %v, want %v", what, got, slices.Collect(s.All()), p.blocks)
	}
	for at, word := range p.words {
		if got, ok := s.Peek(at); !ok || got != word {
			t.Fatalf("P804: %s: Peek(%d) = %d, %v, want %d", what, at, got, ok, word)
		}
		got, ok := s.Block(at)
		if b, there := p.block(at); ok != there || got != b || s.Check(at) != p.check(at) {
			t.Fatalf("P807, P808: %s: Block(%d) = %v, %v, want %v; Check: %v", what, at, got, ok, b, s.Check(at))
		}
	}
	for serial := range p.serial + 2 {
		got, ok := s.Find(serial)
		if at, there := p.find(serial); ok != there || got != at {
			t.Fatalf("P807: %s: Find(%d) = %d, %v, want %d, %v", what, serial, got, ok, at, there)
		}
	}
}

// wild are numbers far from all indices, sizes and kinds; some look like small ones if their upper bits are lost.
func wild() []int {
	return []int{least, least + 1, least + 16, -1 << 32, 1 - 1<<32, -262144, -4097, -65, -64, -4, -3, -2, -1, 262144, 1 << 31, 1<<31 + 1, 1 << 32, 1<<32 + 1, 1<<32 + 3, 1 << 61, 1 << 62, greatest - 1, greatest}
}

// shapes are objects of all kinds and classes, and larger ones; the last ones are none.
func shapes() [][2]int {
	return [][2]int{
		{api.KindPair, 3}, {api.KindBox, 2}, {api.KindVector, 1}, {api.KindVector, 17}, {api.KindVector, 33}, {api.KindVector, 64}, {api.KindVector, 65}, {api.KindVector, 130},
		{api.KindText, 2}, {api.KindText, 20}, {api.KindText, 50}, {api.KindFlo, 2}, {api.KindClosure, 5}, {api.KindClosure, 32}, {api.KindCont, 2}, {api.KindWeak, 3}, {api.KindEph, 3}, {api.KindTable, 3},
		{api.KindFrame, 7}, {api.KindFrame, 12}, {api.KindFrame, 40}, {api.KindSpine, 5}, {api.KindSpine, 9}, {api.KindSpine, 65}, {api.KindEntry, 4},
		{api.KindPair, 4}, {api.KindSpine, 6}, {14, 3}, {0, 3}, {api.KindVector, 1025}, {api.KindText, 1},
	}
}

// past tells a space and a plain one the same, without a rule, and looks whether they answer alike.
type past struct {
	s      *Space
	p      *plain
	source *rand.Rand
}

func begun(s *Space, n int, seed int64) *past {
	return &past{s, blank(n), rand.New(rand.NewSource(seed))}
}

// index is an index of the arena, or one just beside it; more often than not one that matters.
func (x *past) index() int {
	if n := len(x.p.blocks); n > 0 && x.source.Intn(2) == 0 {
		return x.p.blocks[x.source.Intn(n)].At
	}
	if list := x.p.free(x.source.Intn(8)); x.source.Intn(2) == 0 {
		return list[x.source.Intn(len(list))]
	}
	return x.source.Intn(len(x.p.words)+4) - 2
}

func (x *past) alloc() bool {
	list := shapes()
	shape := list[x.source.Intn(len(list))]
	tag := x.source.Intn(5) - 2
	at, fault := x.s.Alloc(shape[0], shape[1], tag)
	wantAt, wantFault := x.p.alloc(shape[0], shape[1], tag)
	return at == wantAt && fault == wantFault
}

func (x *past) poke() bool {
	at := x.index()
	words := []int{0, 8, value.Link(-1), value.Link(x.source.Intn(256)), header.Make(at, 1, 3), int(x.source.Uint64())}
	w := words[x.source.Intn(len(words))]
	there := at >= 0 && at < len(x.p.words)
	if there {
		x.p.words[at] = w
	}
	return x.s.Poke(at, w) == there
}

func (x *past) readWrite() bool {
	at, i, w := x.index(), x.source.Intn(45)-2, int(x.source.Uint64())
	got, fault := x.s.Read(at, i)
	want, wantFault := x.p.read(at, i)
	return got == want && fault == wantFault && x.s.Write(at, i, w) == x.p.write(at, i, w)
}

func (x *past) fits() bool {
	sizes := make([]int, x.source.Intn(6))
	for i := range sizes {
		sizes[i] = []int{1, 2, 3, 6, 8, 12, 17, 32, 33, 64, 65, 130, 300, 0, 1025}[x.source.Intn(15)]
	}
	return x.s.Fits(sizes...) == x.p.fits(sizes...)
}

// keep keeps most objects, or few, or names a place of none.
func (x *past) keep() bool {
	var list []int
	part := x.source.Intn(5)
	for _, b := range x.p.blocks {
		if x.source.Intn(4) < part {
			list = append(list, b.At)
		}
	}
	if x.source.Intn(2) == 0 {
		list = append(list, list...)
	}
	if x.source.Intn(3) == 0 {
		list = append(list, x.index())
	}
	x.source.Shuffle(len(list), func(i, j int) { list[i], list[j] = list[j], list[i] })
	n, errno := x.s.Keep(list)
	want, wantErrno := x.p.keep(list)
	return n == want && errno == wantErrno
}

// turn is one call, of whatever kind.
func (x *past) turn() bool {
	switch x.source.Intn(16) {
	case 0, 1:
		return x.poke()
	case 2, 3:
		return x.readWrite()
	case 4, 5:
		return x.fits()
	case 6:
		return x.source.Intn(3) > 0 || x.keep()
	}
	return x.alloc()
}

// run makes as many turns; false: they did not answer alike, or were not alike in the end.
func (x *past) run(turns int) bool {
	for range turns {
		if !x.turn() {
			return false
		}
	}
	want := api.Dump{Words: x.p.words, Pages: x.p.pages, Blocks: x.p.blocks, Heads: x.p.heads(), Serial: x.p.serial}
	return sameDump(x.s.Dump(), want) && x.s.Wrong() == x.p.wrong()
}
