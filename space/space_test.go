package space

import (
	"iter"
	"math"
	"slices"
	"testing"

	"hearth/api"
	"hearth/header"
	"hearth/value"
)

func TestP801New(t *testing.T) {
	for _, n := range []int{1, 2, 3, 16, 17, 100} {
		same(t, "P801: at the beginning", made(t, n), blank(n))
	}
	s := made(t, 4096)
	if s.Words() != 262144 || len(s.Blocks()) != 0 || s.Wrong() != -1 || s.Use() != 0 {
		t.Errorf("P801: of 4096 pages: %d words, %v", s.Words(), s.Blocks())
	}
	d := s.Dump()
	if slices.ContainsFunc(d.Words, func(w int) bool { return w != 0 }) || len(d.Words) != 262144 || d.Serial != 0 {
		t.Error("P801: of 4096 pages a word is not 0")
	}
	if slices.ContainsFunc(d.Pages, func(p api.Page) bool { return p != api.Page{} }) || len(d.Pages) != 4096 {
		t.Error("P801: of 4096 pages one is not free")
	}
}

func TestP801NewRefuses(t *testing.T) {
	for _, n := range append(wild(), 0, 4097, 4098) {
		if s, e := New(n); s != nil || e != api.ErrArg {
			t.Errorf("P801: New(%d) = %v, %d", n, s, e)
		}
	}
}

func TestP801WordsStay(t *testing.T) {
	s := made(t, 3)
	vectors(t, s, 100, 1)
	vectors(t, s, 3, 2)
	s.Keep(nil)
	if s.Words() != 192 {
		t.Errorf("P801: Words() = %d, want 192", s.Words())
	}
}

// full is a space of a page in which every word was poked, each with another one.
func full(t *testing.T) *Space {
	s := made(t, 1)
	for at := range 64 {
		if !s.Poke(at, at*at-99) {
			t.Fatalf("P804: Poke(%d, ..) is false", at)
		}
	}
	return s
}

func TestP804PeekPoke(t *testing.T) {
	s := full(t)
	for at := range 64 {
		if w, ok := s.Peek(at); !ok || w != at*at-99 {
			t.Errorf("P804: Peek(%d) = %d, %v", at, w, ok)
		}
	}
	for _, w := range wild() {
		if !s.Poke(7, w) {
			t.Errorf("P804: Poke(7, %d) is false", w)
		}
		if got, ok := s.Peek(7); !ok || got != w {
			t.Errorf("P804: Peek(7) = %d, %v, want %d", got, ok, w)
		}
	}
}

func TestP804NoSuchWord(t *testing.T) {
	s := full(t)
	before := s.Dump()
	for _, at := range append(wild(), 64, 65, 127, 128) {
		if s.Poke(at, 5) {
			t.Errorf("P804: Poke(%d, 5) is true", at)
		}
		if w, ok := s.Peek(at); ok || w != 0 {
			t.Errorf("P804: Peek(%d) = %d, %v", at, w, ok)
		}
	}
	if !sameDump(s.Dump(), before) {
		t.Error("P804: Poke beyond the arena has changed something")
	}
	s = made(t, 4096)
	if !s.Poke(262143, 1) || s.Poke(262144, 1) {
		t.Error("P804: the last word of the greatest arena")
	}
}

// Links that lead to each other, to themselves, or out of the arena lead no call astray.
func TestP804WildLinksAreNotFollowed(t *testing.T) {
	for _, w := range []int{value.Link(4), value.Link(8), value.Link(0), value.Link(262143), value.Link(63), -4, 8*1<<40 + 4, least, greatest} {
		s := made(t, 2)
		taken(t, s, api.KindPair, 3)
		taken(t, s, api.KindVector, 40)
		for at := range 128 {
			s.Poke(at, w)
		}
		if !s.Fits(3, 3, 3, 3, 3, 3, 3, 3, 3, 3, 3, 3, 3, 3, 3) || s.Fits(33) {
			t.Errorf("P804: all words %d: other objects fit", w)
		}
		if s.Wrong() != 0 || len(s.Blocks()) != 2 || len(slices.Collect(s.All())) != 2 || s.Dump().Heads[1] != 4 {
			t.Errorf("P804: all words %d: %v", w, s.Dump())
		}
		_, fault := s.Alloc(api.KindPair, 3, 0)
		want := api.Fault{Err: api.ErrCorrupt, At: 4}
		if w == value.Link(8) {
			want = api.Fault{}
		}
		if fault != want {
			t.Errorf("P804: all words %d: Alloc: %v", w, fault)
		}
		if _, e := s.Keep([]int{64}); e != api.OK || s.Wrong() != 64 {
			t.Errorf("P804: all words %d: Keep: %d, wrong: %d", w, e, s.Wrong())
		}
	}
}

func TestP803WordsDoNotChangeSideTables(t *testing.T) {
	s := made(t, 4)
	for _, shape := range [][2]int{{1, 3}, {13, 4}, {3, 70}, {6, 1}, {1, 3}} {
		s.Alloc(shape[0], shape[1], shape[1]*10)
	}
	before, use := s.Dump(), s.Use()
	want := []api.Block{{At: 0, Kind: 1, Size: 3, Serial: 1, Tag: 30}, {At: 4, Kind: 13, Size: 4, Tag: 40}, {At: 8, Kind: 1, Size: 3, Serial: 4, Tag: 30}, {At: 64, Kind: 3, Size: 70, Serial: 2, Tag: 700}, {At: 192, Kind: 6, Size: 1, Serial: 3, Tag: 10}}
	if !slices.Equal(before.Blocks, want) {
		t.Fatalf("P803: %v, want %v", before.Blocks, want)
	}
	for _, w := range []int{0, -1, greatest, value.Link(-1), value.Link(0), header.Make(0, 2, 2), header.Make(4, 3, 64)} {
		for at := range 256 {
			s.Poke(at, w)
		}
		d := s.Dump()
		d.Words = before.Words
		if !sameDump(d, before) || s.Use() != use {
			t.Errorf("P803: all words %d: the side tables are %v", w, d)
		}
		for _, b := range want {
			if got, ok := s.Block(b.At); !ok || got != b {
				t.Errorf("P803: all words %d: Block(%d) = %v, %v", w, b.At, got, ok)
			}
		}
		if at, ok := s.Find(4); at != 8 || !ok {
			t.Errorf("P803: all words %d: Find(4) = %d, %v", w, at, ok)
		}
	}
}

func TestP807Block(t *testing.T) {
	s := made(t, 5)
	vectors(t, s, 150, 1)
	s.Alloc(api.KindEntry, 4, greatest)
	s.Alloc(api.KindFrame, 9, least)
	want := map[int]api.Block{0: {At: 0, Kind: 3, Size: 150, Serial: 1}, 192: {At: 192, Kind: 13, Size: 4, Tag: greatest}, 256: {At: 256, Kind: 11, Size: 9, Serial: 2, Tag: least}}
	for at := -70; at < 400; at++ {
		got, ok := s.Block(at)
		if b, there := want[at]; ok != there || got != b {
			t.Errorf("P807: Block(%d) = %v, %v", at, got, ok)
		}
	}
	for _, at := range wild() {
		if got, ok := s.Block(at); ok || got != (api.Block{}) {
			t.Errorf("P807: Block(%d) = %v, %v", at, got, ok)
		}
	}
}

func TestP807Find(t *testing.T) {
	s := made(t, 3)
	s.Alloc(api.KindEntry, 4, 0)
	places := []int{taken(t, s, 1, 3), taken(t, s, 1, 3), taken(t, s, 3, 33), taken(t, s, 1, 3)}
	s.Alloc(api.KindSpine, 5, 1)
	for i, at := range places {
		if got, ok := s.Find(i + 1); !ok || got != at {
			t.Errorf("P807: Find(%d) = %d, %v, want %d", i+1, got, ok, at)
		}
	}
	for _, serial := range append(wild(), 0, 5, 6) {
		if got, ok := s.Find(serial); ok || got != 0 {
			t.Errorf("P807: Find(%d) = %d, %v", serial, got, ok)
		}
	}
	s.Keep(places[1:3])
	at := taken(t, s, 1, 3)
	for serial, want := range []int{-1, -1, places[1], places[2], -1, at, -1} {
		got, ok := s.Find(serial)
		if ok != (want >= 0) || got != max(want, 0) {
			t.Errorf("P807: behind Keep: Find(%d) = %d, %v, want %d", serial, got, ok, want)
		}
	}
}

func TestP808Check(t *testing.T) {
	s := made(t, 3)
	places := []int{taken(t, s, 1, 3), taken(t, s, 1, 3), taken(t, s, 13, 4), taken(t, s, 3, 65)}
	for at := -3; at < 200; at++ {
		want := api.Fault{Err: api.ErrBlock}
		if slices.Contains(places, at) {
			want = api.Fault{}
		}
		if got := s.Check(at); got != want {
			t.Errorf("P808: Check(%d) = %v, want %v", at, got, want)
		}
	}
	for _, at := range append(wild(), 192, 256) {
		if got := s.Check(at); got != (api.Fault{Err: api.ErrBlock}) {
			t.Errorf("P808: Check(%d) = %v", at, got)
		}
	}
	for _, at := range places {
		right, _ := s.Peek(at)
		b, _ := s.Block(at)
		for _, w := range []int{0, -right, right ^ 1, right + 8, right ^ least, header.Make(at+4, b.Kind, b.Size), header.Make(at, 2, 2), header.Make(at, b.Kind, b.Size+1), value.Link(-1)} {
			s.Poke(at, w)
			if got := s.Check(at); got != (api.Fault{Err: api.ErrCorrupt, At: at}) {
				t.Errorf("P808: Check(%d) of the word %d = %v", at, w, got)
			}
			if got, _ := s.Peek(at); got != w {
				t.Errorf("P808: Check(%d) has written %d", at, got)
			}
		}
		s.Poke(at, right)
		if got := s.Check(at); got != (api.Fault{}) {
			t.Errorf("P808: Check(%d) of the right word again = %v", at, got)
		}
	}
}

func TestP809ReadWrite(t *testing.T) {
	s := made(t, 6)
	for _, size := range []int{2, 3, 4, 7, 12, 32, 33, 64, 65, 128} {
		s.Keep(nil)
		at := vectors(t, s, size, 2)[1]
		for i := 1; i < size; i++ {
			if w, fault := s.Read(at, i); w != 0 || fault != (api.Fault{}) {
				t.Fatalf("P809: Read(%d, %d) of a new object = %d, %v", at, i, w, fault)
			}
			if fault := s.Write(at, i, i-5); fault != (api.Fault{}) {
				t.Fatalf("P809: Write(%d, %d) = %v", at, i, fault)
			}
		}
		for i := 1; i < size; i++ {
			w, _ := s.Peek(at + i)
			if got, fault := s.Read(at, i); got != i-5 || w != i-5 || fault != (api.Fault{}) {
				t.Fatalf("P809: Read(%d, %d) = %d, %v", at, i, got, fault)
			}
		}
		for i := size; i < roomOf(size); i++ {
			if w, _ := s.Peek(at + i); w != 0 {
				t.Fatalf("P809: behind an object of %d words: %d", size, w)
			}
		}
	}
	at := taken(t, s, api.KindBox, 2)
	for _, w := range append(wild(), 0, 5, 6, 7) {
		if fault := s.Write(at, 1, w); fault != (api.Fault{}) {
			t.Errorf("P809: Write of %d: %v", w, fault)
		}
		if got, _ := s.Read(at, 1); got != w {
			t.Errorf("P809: Read = %d, want %d", got, w)
		}
	}
}

func TestP809Errors(t *testing.T) {
	s := made(t, 3)
	small, large := vectors(t, s, 3, 2)[1], vectors(t, s, 70, 1)[0]
	s.Poke(small+3, 77)
	s.Poke(large+70, 77)
	before := s.Dump()
	both := func(at, i int, want api.Fault) {
		t.Helper()
		if w, fault := s.Read(at, i); w != 0 || fault != want {
			t.Errorf("P809: Read(%d, %d) = %d, %v, want %v", at, i, w, fault, want)
		}
		if fault := s.Write(at, i, 9); fault != want {
			t.Errorf("P809: Write(%d, %d, 9) = %v, want %v", at, i, fault, want)
		}
	}
	for _, i := range append(wild(), 0, 3, 4, -small) {
		both(small, i, api.Fault{Err: api.ErrWord})
	}
	for _, i := range append(wild(), 0, 70, 71, 127, 128) {
		both(large, i, api.Fault{Err: api.ErrWord})
	}
	for _, at := range append(wild(), small+1, small+4, large+64, 192) {
		both(at, 1, api.Fault{Err: api.ErrBlock})
		both(at, 0, api.Fault{Err: api.ErrBlock})
	}
	if !sameDump(s.Dump(), before) {
		t.Errorf("P809: Write has changed something beside an error: %v", s.Dump())
	}
	s.Poke(small, 0)
	before = s.Dump()
	both(small, 1, api.Fault{Err: api.ErrCorrupt, At: small})
	both(small, 3, api.Fault{Err: api.ErrCorrupt, At: small})
	both(small, -1, api.Fault{Err: api.ErrCorrupt, At: small})
	if !sameDump(s.Dump(), before) {
		t.Errorf("P809: Write has changed something of a corrupt object: %v", s.Dump())
	}
}

// placesOf are the places of what an iterator yields.
func placesOf(all iter.Seq[api.Block]) []int {
	var out []int
	for b := range all {
		out = append(out, b.At)
	}
	return out
}

func TestP810BlocksRise(t *testing.T) {
	s := made(t, 6)
	taken(t, s, 3, 10)
	taken(t, s, 3, 70)
	taken(t, s, 2, 2)
	taken(t, s, 1, 3)
	taken(t, s, 3, 10)
	s.Keep([]int{12, 64, 192})
	taken(t, s, 3, 10)
	taken(t, s, 13, 4)
	want := []api.Block{{At: 0, Kind: 3, Size: 10, Serial: 6}, {At: 12, Kind: 3, Size: 10, Serial: 5}, {At: 64, Kind: 3, Size: 70, Serial: 2}, {At: 192, Kind: 2, Size: 2, Serial: 3}, {At: 256, Kind: 13, Size: 4}}
	if got := s.Blocks(); !slices.Equal(got, want) {
		t.Errorf("P810: Blocks() = %v, want %v", got, want)
	}
	if got := slices.Collect(s.All()); !slices.Equal(got, want) {
		t.Errorf("P810: All() = %v, want %v", got, want)
	}
}

func TestP810BlocksAreNewMemory(t *testing.T) {
	s := made(t, 1)
	vectors(t, s, 3, 3)
	one, other := s.Blocks(), s.Blocks()
	want := slices.Clone(one)
	clear(one)
	_ = append(one, api.Block{At: 9})
	if !slices.Equal(other, want) || !slices.Equal(s.Blocks(), want) {
		t.Errorf("P810: an answer of Blocks was changed: %v, %v", other, s.Blocks())
	}
	s.Keep(nil)
	if !slices.Equal(other, want) {
		t.Errorf("P810: Keep has changed an answer of Blocks: %v", other)
	}
}

func TestP810AllLooksAtThatMoment(t *testing.T) {
	for _, r := range []struct {
		what string
		turn func(s *Space, at int)
		want []int
	}{
		{"nothing", func(s *Space, at int) {}, []int{0, 4, 8, 12}},
		{"freed ahead", func(s *Space, at int) { s.Keep([]int{0, 12}) }, []int{0, 12}},
		{"all freed", func(s *Space, at int) { s.Keep(nil) }, []int{0}},
		{"freed, and taken behind", func(s *Space, at int) {
			if at == 8 {
				s.Keep([]int{8})
				s.Alloc(1, 3, 0)
				s.Alloc(1, 3, 0)
			}
		}, []int{0, 4, 8}},
		{"taken ahead", func(s *Space, at int) {
			if at == 12 {
				s.Alloc(1, 3, 0)
			}
			if at == 16 {
				s.Alloc(3, 33, 0)
			}
		}, []int{0, 4, 8, 12, 16, 64}},
		{"freed and taken again", func(s *Space, at int) {
			if at == 0 {
				s.Keep([]int{0, 4, 12})
				s.Alloc(13, 4, 0)
			}
		}, []int{0, 4, 8, 12}},
		{"every time one more", func(s *Space, at int) { s.Alloc(1, 3, 0) }, []int{0, 4, 8, 12, 16, 20, 24, 28, 32, 36, 40, 44, 48, 52, 56, 60, 64, 68, 72, 76, 80, 84, 88, 92, 96, 100, 104, 108, 112, 116, 120, 124}},
	} {
		s := made(t, 2)
		vectors(t, s, 3, 4)
		var got []int
		for b := range s.All() {
			if now, ok := s.Block(b.At); !ok || now != b {
				t.Errorf("P810: %s: %v is yielded, where %v stands", r.what, b, now)
			}
			got = append(got, b.At)
			r.turn(s, b.At)
		}
		if !slices.Equal(got, r.want) {
			t.Errorf("P810: %s: %v, want %v", r.what, got, r.want)
		}
	}
}

func TestP810AllAgainAndAgain(t *testing.T) {
	s := made(t, 1)
	all := s.All()
	if got := placesOf(all); len(got) != 0 {
		t.Errorf("P810: of an empty space: %v", got)
	}
	vectors(t, s, 5, 3)
	for b := range all {
		if b.At == 6 {
			break
		}
	}
	turns := 0
	all(func(api.Block) bool {
		turns++
		return turns < 2
	})
	if turns != 2 {
		t.Errorf("P810: left behind 2 objects, it yielded %d", turns)
	}
	for range 3 {
		if got := placesOf(all); !slices.Equal(got, []int{0, 6, 12}) {
			t.Errorf("P810: once more: %v", got)
		}
	}
	inner := 0
	for range all {
		inner += len(placesOf(all))
	}
	if inner != 9 {
		t.Errorf("P810: one loop in another: %d turns", inner)
	}
	s.Keep([]int{6})
	next, stop := iter.Pull(all)
	defer stop()
	first, ok := next()
	taken(t, s, 3, 5)
	at := taken(t, s, 3, 5)
	second, more := next()
	if !ok || !more || first.At != 6 || second.At != at || at != 12 {
		t.Errorf("P810: pulled one by one: %v %v, then %v %v", first, ok, second, more)
	}
}

func TestP811WrongHeadersAndLinks(t *testing.T) {
	s := made(t, 4)
	vectors(t, s, 5, 2)
	taken(t, s, 3, 70)
	taken(t, s, 2, 2)
	for at := range 256 {
		before, _ := s.Peek(at)
		for _, w := range []int{before ^ 1, before ^ least, 99} {
			s.Poke(at, w)
			first := at < 60 && at%6 == 0 || at == 64 || at >= 192 && at%2 == 0
			want := -1
			if first {
				want = at
			}
			if got := s.Wrong(); got != want {
				t.Errorf("P811: the word %d at %d: Wrong() = %d, want %d", w, at, got, want)
			}
			if got, _ := s.Peek(at); got != w {
				t.Errorf("P811: Wrong() has changed the word at %d", at)
			}
		}
		s.Poke(at, before)
	}
	if s.Wrong() != -1 {
		t.Errorf("P811: all is right again: %d", s.Wrong())
	}
}

func TestP811TheLeastOne(t *testing.T) {
	s := made(t, 3)
	taken(t, s, 1, 3)
	taken(t, s, 2, 2)
	taken(t, s, 3, 40)
	for _, at := range []int{128, 126, 100, 64, 60, 12, 4, 0} {
		s.Poke(at, 0)
		if got := s.Wrong(); got != at {
			t.Errorf("P811: Wrong() = %d, want %d", got, at)
		}
	}
	s.Poke(0, header.Make(0, 1, 3))
	if got := s.Wrong(); got != 4 {
		t.Errorf("P811: Wrong() = %d, want 4", got)
	}
}

func TestP811LinksToTheNextAlone(t *testing.T) {
	s := made(t, 2)
	places := vectors(t, s, 20, 4)
	s.Keep([]int{places[1], places[3]})
	if s.Wrong() != -1 {
		t.Fatalf("P811: Wrong() = %d", s.Wrong())
	}
	for _, w := range []int{value.Link(84), value.Link(104), value.Link(-1), value.Link(0), value.Link(20), value.Link(64)} {
		s.Poke(0, w)
		if got := s.Wrong(); got != 0 {
			t.Errorf("P811: the link %d in the place of that to 40: Wrong() = %d", w, got)
		}
	}
	s.Poke(0, value.Link(40))
	if got := s.Wrong(); got != -1 {
		t.Errorf("P811: the right link: Wrong() = %d", got)
	}
}

func TestP812Use(t *testing.T) {
	for _, r := range []struct {
		pages int
		sizes []int
		want  float64
	}{
		{1, nil, 0}, {1, []int{1}, 1.0 / 32}, {1, []int{3}, 1.0 / 16}, {1, []int{33}, 1}, {3, []int{5}, 6.0 / 192}, {3, []int{33}, 64.0 / 192},
		{3, []int{65, 17}, 148.0 / 192}, {7, []int{9}, 12.0 / 448}, {4096, []int{1024, 1}, 1026.0 / 262144}, {2, []int{32, 32, 32, 32}, 1}, {1, []int{6, 6, 6, 6, 6, 6, 6, 6, 6, 6}, 60.0 / 64},
	} {
		s := made(t, r.pages)
		for _, size := range r.sizes {
			taken(t, s, api.KindVector, size)
		}
		if got := s.Use(); got != r.want {
			t.Errorf("P812: of %d pages, the sizes %v: Use() = %v, want %v", r.pages, r.sizes, got, r.want)
		}
		s.Keep(nil)
		if got := s.Use(); got != 0 || math.Signbit(got) {
			t.Errorf("P812: behind Keep(): Use() = %v", got)
		}
	}
}

func TestP812EveryThirdOfAPage(t *testing.T) {
	s := made(t, 3)
	want := 0.0
	for i := range 96 {
		if got := s.Use(); got != want {
			t.Errorf("P812: %d boxes: Use() = %v, want %v", i, got, want)
		}
		taken(t, s, 2, 2)
		want = float64(2*i+2) / 192
	}
	if s.Use() != 1 {
		t.Errorf("P812: a full space: Use() = %v", s.Use())
	}
}

func TestP813DumpIsNewMemory(t *testing.T) {
	s := made(t, 2)
	vectors(t, s, 3, 2)
	vectors(t, s, 40, 1)
	one, other := s.Dump(), s.Dump()
	clear(one.Words)
	clear(one.Pages)
	clear(one.Blocks)
	_, _, _ = append(one.Words, 1), append(one.Pages, api.Page{Kind: 9}), append(one.Blocks, api.Block{At: 9})
	if !sameDump(s.Dump(), other) || other.Words[0] == 0 || len(other.Blocks) != 3 {
		t.Errorf("P813: an answer of Dump was changed: %v", s.Dump())
	}
	first := s.Dump()
	s.Poke(1, 99)
	s.Keep(nil)
	taken(t, s, 2, 2)
	if !sameDump(first, other) {
		t.Errorf("P813: later calls have changed an answer of Dump: %v", first)
	}
}

func TestP813Heads(t *testing.T) {
	s := made(t, 9)
	for c, words := range blockWords {
		want := [8]int{-1, -1, -1, -1, -1, -1, -1, -1}
		s.Keep(nil)
		count := 64 / words
		for i := range count {
			if got := s.Dump().Heads; got != want {
				t.Errorf("P813: %d objects of the class %d: Heads %v, want %v", i, c, got, want)
			}
			taken(t, s, api.KindVector, words)
			want[c] = (i + 1) * words
		}
		want[c] = -1
		if got := s.Dump().Heads; got != want {
			t.Errorf("P813: a full page of the class %d: Heads %v", c, got)
		}
	}
	s.Keep(nil)
	for _, words := range blockWords {
		taken(t, s, api.KindVector, words)
	}
	if got, want := s.Dump().Heads, [8]int{2, 68, 134, 200, 268, 336, 404, 480}; got != want {
		t.Errorf("P813: Heads %v, want %v", got, want)
	}
}
