package space

import (
	"slices"
	"testing"

	"hearth/api"
	"hearth/value"
)

func TestP814FreesAllButThose(t *testing.T) {
	for mask := range 1 << 6 {
		s := made(t, 5)
		places := []int{taken(t, s, 1, 3), taken(t, s, 13, 4), taken(t, s, 3, 70), taken(t, s, 1, 3), taken(t, s, 12, 9), taken(t, s, 12, 9)}
		var keep, blocks []int
		for i, at := range places {
			if mask>>i&1 == 1 {
				keep = append(keep, at)
			}
		}
		if n, e := s.Keep(keep); n != 6-len(keep) || e != api.OK {
			t.Fatalf("P814: Keep(%v) of %v = %d, %d", keep, places, n, e)
		}
		for _, b := range s.Blocks() {
			blocks = append(blocks, b.At)
		}
		slices.Sort(keep)
		if !slices.Equal(blocks, keep) {
			t.Fatalf("P814: behind Keep(%v): %v", keep, blocks)
		}
		pages := s.Dump().Pages
		class1, run, class4 := mask&0b1011 > 0, mask&0b100 > 0, mask&0b110000 > 0
		if (pages[0].Kind == 1) != class1 || (pages[1].Kind == 2) != run || (pages[2].Kind == 3) != run || (pages[3].Kind == 1) != class4 {
			t.Fatalf("P814: behind Keep(%v): the pages are %v", keep, pages)
		}
	}
}

func TestP814PagesBecomeFree(t *testing.T) {
	s := made(t, 8)
	pairs := vectors(t, s, 3, 33)
	run := taken(t, s, api.KindVector, 150)
	taken(t, s, api.KindBox, 2)
	if n, e := s.Keep([]int{run, pairs[32]}); n != 33 || e != api.OK {
		t.Fatalf("P814: Keep = %d, %d", n, e)
	}
	class, free, rest := api.Page{Kind: 1, Class: 1}, api.Page{}, api.Page{Kind: 3}
	want := []api.Page{free, free, class, {Kind: 2, Run: 3}, rest, rest, free, free}
	if got := s.Dump().Pages; !slices.Equal(got, want) {
		t.Errorf("P814: the pages are %v, want %v", got, want)
	}
	s.Keep([]int{pairs[32]})
	want[3], want[4], want[5] = free, free, free
	if got := s.Dump().Pages; !slices.Equal(got, want) {
		t.Errorf("P814: a run is freed: the pages are %v, want %v", got, want)
	}
	if at := taken(t, s, api.KindVector, 128); at != 0 {
		t.Errorf("P814: freed pages are taken at %d", at)
	}
}

func TestP814FreeBlocksAreLinked(t *testing.T) {
	for c, words := range blockWords {
		s := made(t, 3)
		count := 64 / words
		places := vectors(t, s, words, 3*count)
		// One object in the first page and one in the last: the page between is free.
		keep := []int{places[3*count-1], places[1]}
		for at := range 192 {
			if !slices.Contains(keep, at) {
				s.Poke(at, -7)
			}
		}
		before := s.Dump().Words
		s.Keep(keep)
		want := make([]int, 192)
		for _, at := range keep {
			copy(want[at:at+words], before[at:])
		}
		var free []int
		for i, at := range places {
			if i != 1 && i != 3*count-1 && i/count != 1 {
				free = append(free, at)
			}
		}
		for i, at := range append(free, -1)[1:] {
			want[free[i]] = value.Link(at)
		}
		if got := s.Dump(); !slices.Equal(got.Words, want) || got.Heads[c] != free[0] || s.Wrong() != -1 {
			t.Errorf("P814: the class %d: %v, want %v", c, got.Words, want)
		}
	}
}

// The words of a page that belong to no block, of free blocks and of free pages are 0, though nothing is freed.
func TestP814WordsOfNobody(t *testing.T) {
	s := made(t, 3)
	at := taken(t, s, api.KindVector, 6)
	want := s.Dump()
	for i := 6; i < 192; i++ {
		s.Poke(i, i)
	}
	if n, e := s.Keep([]int{at}); n != 0 || e != api.OK {
		t.Fatalf("P814: Keep = %d, %d", n, e)
	}
	if got := s.Dump(); !sameDump(got, want) {
		t.Errorf("P814: %v, want %v", got, want)
	}
}

func TestP814KeptRoomsAreAsTheyWere(t *testing.T) {
	s := made(t, 5)
	keep := []int{taken(t, s, 3, 5), taken(t, s, 3, 70), taken(t, s, 1, 3)}
	vectors(t, s, 5, 3)
	for at := range 320 {
		s.Poke(at, at*7+1)
	}
	s.Keep(keep)
	for i, room := range []int{6, 128, 4} {
		for at := keep[i]; at < keep[i]+room; at++ {
			if w, _ := s.Peek(at); w != at*7+1 {
				t.Errorf("P814: the word %d of a room that is kept is %d", at, w)
			}
		}
	}
	for _, at := range keep {
		if s.Check(at) != (api.Fault{Err: api.ErrCorrupt, At: at}) {
			t.Errorf("P814: the wrong header at %d: %v", at, s.Check(at))
		}
	}
	if w, _ := s.Peek(6); w != value.Link(12) {
		t.Errorf("P814: the first free block's word is %d", w)
	}
}

func TestP814KeptObjectsAreAsTheyWere(t *testing.T) {
	s := made(t, 6)
	for i, shape := range [][2]int{{1, 3}, {13, 4}, {3, 100}, {6, 2}, {12, 5}, {1, 3}} {
		s.Alloc(shape[0], shape[1], i-3)
	}
	all := s.Blocks()
	keep := []int{all[0].At, all[2].At, all[3].At, all[5].At}
	s.Keep(keep)
	if got, want := s.Blocks(), []api.Block{all[0], all[2], all[3], all[5]}; !slices.Equal(got, want) {
		t.Errorf("P814: %v are kept, want %v", got, want)
	}
	for _, b := range all {
		at, ok := s.Find(b.Serial)
		kept := slices.Contains(keep, b.At)
		if b.Serial > 0 && (ok != kept || kept && at != b.At) {
			t.Errorf("P814: Find(%d) = %d, %v", b.Serial, at, ok)
		}
		if got, ok := s.Block(b.At); ok != kept || kept && got != b {
			t.Errorf("P814: Block(%d) = %v, %v", b.At, got, ok)
		}
	}
}

func TestP814Refuses(t *testing.T) {
	s := made(t, 4)
	pairs := vectors(t, s, 3, 17)
	run := taken(t, s, api.KindVector, 100)
	s.Poke(68, 0)
	s.Poke(0, 0)
	s.Poke(63, 1)
	before := s.Dump()
	for _, at := range append(wild(), 1, 2, 3, 68, 69, 127, run+1, run+64, 256, 257) {
		for _, list := range [][]int{{at}, {pairs[0], at}, {at, run}, {at, at}, append(slices.Clone(pairs), run, at)} {
			if n, e := s.Keep(list); n != 0 || e != api.ErrBlock {
				t.Errorf("P814: Keep(%v) = %d, %d", list, n, e)
			}
		}
		if !sameDump(s.Dump(), before) {
			t.Fatalf("P814: a Keep that is refused has changed something: %v", s.Dump())
		}
	}
	s.Keep([]int{run})
	if n, e := s.Keep([]int{run, pairs[0]}); n != 0 || e != api.ErrBlock {
		t.Errorf("P814: what was freed is no object's place: %d, %d", n, e)
	}
}

func TestP814ListIsLeftAlone(t *testing.T) {
	s := made(t, 2)
	places := vectors(t, s, 3, 4)
	list := []int{places[3], places[1], places[3], 99, 98}
	if n, e := s.Keep(list[:3]); n != 2 || e != api.OK {
		t.Errorf("P814: Keep = %d, %d", n, e)
	}
	if !slices.Equal(list, []int{12, 4, 12, 99, 98}) {
		t.Errorf("P814: Keep has changed its list: %v", list)
	}
	clear(list)
	if got := placesOf(s.All()); !slices.Equal(got, []int{4, 12}) {
		t.Errorf("P814: Keep has kept its list: %v", got)
	}
}

func TestP814SerialsAreNotGivenAgain(t *testing.T) {
	s := made(t, 1)
	for serial := 1; serial <= 50; serial++ {
		at := taken(t, s, api.KindPair, 3)
		if b, _ := s.Block(at); b.Serial != serial || at != 0 {
			t.Fatalf("P814: %v, want the serial %d", b, serial)
		}
		if s.Keep(nil); s.Dump().Serial != serial {
			t.Fatalf("P814: the last serial is %d, want %d", s.Dump().Serial, serial)
		}
		if at, ok := s.Find(serial); ok || at != 0 {
			t.Fatalf("P814: Find(%d) = %d, %v", serial, at, ok)
		}
	}
}

func TestP814AgainAndAgain(t *testing.T) {
	s := made(t, 3)
	list := vectors(t, s, 3, 20)[5:9]
	s.Keep(list)
	before := s.Dump()
	for range 3 {
		if n, e := s.Keep(list); n != 0 || e != api.OK || !sameDump(s.Dump(), before) {
			t.Errorf("P814: once more: %d, %d", n, e)
		}
	}
	if n, e := s.Keep(nil); n != 4 || e != api.OK {
		t.Errorf("P814: Keep() = %d, %d", n, e)
	}
	if n, e := s.Keep([]int{}); n != 0 || e != api.OK {
		t.Errorf("P814: Keep() of an empty space = %d, %d", n, e)
	}
}

func TestP805ToP814ChapterExamples(t *testing.T) {
	s := made(t, 2)
	if got := taken(t, s, api.KindPair, 3); got != 0 || s.Dump().Heads[1] != 4 {
		t.Errorf("row 1: %d, %v", got, s.Dump().Heads)
	}
	peeks(t, s, map[int]int{4: value.Link(8), 60: value.Link(-1)})
	if at, fault := s.Alloc(api.KindEntry, 4, 7); at != 4 || fault != (api.Fault{}) || s.Dump().Heads[1] != 8 {
		t.Errorf("row 2: %d, %v", at, fault)
	}
	if b, ok := s.Block(4); !ok || b != (api.Block{At: 4, Kind: 13, Size: 4, Serial: 0, Tag: 7}) {
		t.Errorf("row 2: %v, %v", b, ok)
	}
	fails(t, s, api.KindPair, 4, api.Fault{Err: api.ErrShape})
	fails(t, s, api.KindVector, 100, api.Fault{Err: api.ErrFull})
	if !s.Fits(64) || s.Fits(65) || s.Fits(33, 33) || !s.Fits(3, 33) || s.Fits(6, 33) || s.Fits(0) || !s.Fits() {
		t.Error("row 4: Fits")
	}
	if at := taken(t, s, api.KindVector, 40); at != 64 || s.Dump().Pages[1] != (api.Page{Kind: 2, Run: 1}) || s.Use() != 0.5625 {
		t.Errorf("rows 5, 6: %d, %v, %v", at, s.Dump().Pages, s.Use())
	}
	for _, r := range []struct {
		at, i int
		err   api.Errno
	}{{0, 1, 0}, {0, 3, 23}, {0, 0, 23}, {2, 1, 22}} {
		if w, fault := s.Read(r.at, r.i); w != 0 || fault != (api.Fault{Err: r.err}) {
			t.Errorf("row 7: Read(%d, %d) = %d, %v", r.at, r.i, w, fault)
		}
	}
	corrupt := api.Fault{Err: api.ErrCorrupt}
	if !s.Poke(0, 8) || s.Check(0) != corrupt || s.Write(0, 1, 5) != corrupt || s.Wrong() != 0 || !s.Poke(8, 0) {
		t.Errorf("row 8: %v, %d", s.Check(0), s.Wrong())
	}
	fails(t, s, api.KindBox, 2, api.Fault{Err: api.ErrFull})
	fails(t, s, api.KindPair, 3, api.Fault{Err: api.ErrCorrupt, At: 8})
	if n, e := s.Keep([]int{4, 5}); n != 0 || e != api.ErrBlock {
		t.Errorf("row 10: %d, %d", n, e)
	}
	if n, e := s.Keep([]int{4, 4}); n != 2 || e != api.OK || s.Dump().Heads[1] != 0 || s.Dump().Pages[1] != (api.Page{}) {
		t.Errorf("row 10: %d, %d, %v", n, e, s.Dump())
	}
	peeks(t, s, map[int]int{0: value.Link(8), 8: value.Link(12)})
	at := taken(t, s, api.KindPair, 3)
	third, there := s.Find(3)
	first, ok := s.Find(1)
	if at != 0 || third != 0 || !there || first != 0 || ok {
		t.Errorf("row 11: %d; %d, %v; %d, %v", at, third, there, first, ok)
	}
	end := blank(2)
	end.serial = 3
	if n, e := s.Keep(nil); n != 2 || e != api.OK {
		t.Errorf("row 12: %d, %d", n, e)
	}
	same(t, "row 12", s, end)
}

// fails tells a fault, if an object is taken, or another fault is told.
func fails(t *testing.T, s *Space, kind, size int, want api.Fault) {
	t.Helper()
	if at, fault := s.Alloc(kind, size, 0); at != 0 || fault != want {
		t.Errorf("P806: Alloc(%d, %d, 0) = %d, %v, want %v", kind, size, at, fault, want)
	}
}

// peeks tells a fault, if one of these words is another one.
func peeks(t *testing.T, s *Space, want map[int]int) {
	t.Helper()
	for at, word := range want {
		if got, ok := s.Peek(at); !ok || got != word {
			t.Errorf("Peek(%d) = %d, %v, want %d", at, got, ok, word)
		}
	}
}
