package space

import (
	"slices"
	"testing"

	"hearth/api"
	"hearth/header"
	"hearth/value"
)

func TestP802BlocksOfClasses(t *testing.T) {
	for size := 1; size <= 32; size++ {
		s := made(t, 3)
		words := roomOf(size)
		count := 64 / words
		var want []int
		for i := range 3 * count {
			want = append(want, i/count*64+i%count*words)
		}
		if got := vectors(t, s, size, 3*count); !slices.Equal(got, want) {
			t.Errorf("P802: objects of %d words stand at %v, want %v", size, got, want)
		}
		if at, fault := s.Alloc(api.KindVector, size, 0); at != 0 || fault != (api.Fault{Err: api.ErrFull}) {
			t.Errorf("P806: one more object of %d words: %d, %v", size, at, fault)
		}
		for _, page := range s.Dump().Pages {
			if page != (api.Page{Kind: api.PageClass, Class: classOf(size)}) {
				t.Errorf("P802: a page of objects of %d words is %v", size, page)
			}
		}
	}
}

func TestP802Runs(t *testing.T) {
	for size := 33; size <= 1024; size++ {
		s := made(t, 33)
		n := (size + 63) / 64
		if got, want := vectors(t, s, size, 33/n)[:2], []int{0, n * 64}; !slices.Equal(got, want) {
			t.Fatalf("P802: objects of %d words stand at %v, want %v", size, got, want)
		}
		if _, fault := s.Alloc(api.KindVector, size, 0); fault != (api.Fault{Err: api.ErrFull}) {
			t.Fatalf("P806: one more object of %d words: %v", size, fault)
		}
		for i, page := range s.Dump().Pages[:33/n*n] {
			want := api.Page{Kind: api.PageRest}
			if i%n == 0 {
				want = api.Page{Kind: api.PageHead, Run: n}
			}
			if page != want {
				t.Fatalf("P802: page %d of objects of %d words is %v", i, size, page)
			}
		}
		if got := s.Use(); got != float64(33/n*n)/33 {
			t.Fatalf("P802: the rooms of objects of %d words: %v", size, got)
		}
	}
}

func TestP806NewPage(t *testing.T) {
	for size := 1; size <= 32; size++ {
		s := made(t, 2)
		for at := range 128 {
			s.Poke(at, at+1)
		}
		taken(t, s, api.KindVector, size)
		words := roomOf(size)
		want := make([]int, 64)
		for at := words; at+words <= 64; at += words {
			want[at] = value.Link(at + words)
			if at+2*words > 64 {
				want[at] = -4
			}
		}
		want[0] = header.Make(0, api.KindVector, size)
		for at := 64; at < 128; at++ {
			want = append(want, at+1)
		}
		if got := s.Dump().Words; !slices.Equal(got, want) {
			t.Errorf("P806: a new page for an object of %d words: %v, want %v", size, got, want)
		}
	}
}

func TestP806FreeBlockIsCleared(t *testing.T) {
	for size := 1; size <= 32; size++ {
		s := made(t, 1)
		taken(t, s, api.KindVector, size)
		words := roomOf(size)
		before := s.Dump().Words
		for at := words; at < 64; at++ {
			if at%words != 0 || at+words > 64 {
				s.Poke(at, 77)
				before[at] = 77
			}
		}
		at := taken(t, s, api.KindVector, size)
		clear(before[at : at+words])
		before[at] = header.Make(at, api.KindVector, size)
		if got := s.Dump().Words; at != words || !slices.Equal(got, before) {
			t.Errorf("P806: a free block for an object of %d words: %v, want %v", size, got, before)
		}
	}
}

func TestP806RunIsCleared(t *testing.T) {
	for _, size := range []int{33, 63, 64, 65, 127, 128, 129, 1023, 1024} {
		s := made(t, 18)
		for at := range s.Words() {
			s.Poke(at, 5)
		}
		taken(t, s, api.KindVector, size)
		for at, w := range s.Dump().Words {
			want := 5
			if at < roomOf(size) {
				want = 0
			}
			if at == 0 {
				want = header.Make(0, api.KindVector, size)
			}
			if w != want {
				t.Fatalf("P806: an object of %d words in a run: word %d is %d, want %d", size, at, w, want)
			}
		}
	}
}

func TestP806AllShapes(t *testing.T) {
	serial := 0
	s := made(t, 4096)
	for kind := 1; kind <= 13; kind++ {
		for size := 1; size <= 1024; size++ {
			if size > 140 && size%97 > 0 && size < 1020 {
				continue
			}
			at, fault := s.Alloc(kind, size, kind*size)
			if !fitsShape(kind, size) {
				if at != 0 || fault != (api.Fault{Err: api.ErrShape}) {
					t.Fatalf("P806: Alloc(%d, %d) = %d, %v", kind, size, at, fault)
				}
				continue
			}
			want := api.Block{At: at, Kind: kind, Size: size, Tag: kind * size}
			if kind <= 11 {
				serial++
				want.Serial = serial
			}
			if b, ok := s.Block(at); fault != (api.Fault{}) || !ok || b != want || s.Check(at) != (api.Fault{}) {
				t.Fatalf("P806: Alloc(%d, %d) = %d, %v: %v, want %v", kind, size, at, fault, b, want)
			}
		}
	}
	if s.Wrong() != -1 || s.Dump().Serial != serial {
		t.Errorf("P806: in the end: %d is wrong, the last serial is %d", s.Wrong(), s.Dump().Serial)
	}
}

// fitsShape tells whether objects of a kind may have so many words, as chapter 6's table has it.
func fitsShape(kind, size int) bool {
	switch kind {
	case 3:
		return size >= 1
	case 4:
		return size >= 2 && size <= 514
	case 6:
		return size >= 1 && size <= 65
	case 11:
		return size >= 5 && size <= 133
	case 12:
		return slices.Contains([]int{5, 9, 17, 33, 65, 129, 257, 513}, size)
	}
	return size == map[int]int{1: 3, 2: 2, 5: 2, 7: 2, 8: 3, 9: 3, 10: 3, 13: 4}[kind]
}

func TestP806Refuses(t *testing.T) {
	for _, fullUp := range []bool{false, true} {
		s := made(t, 2)
		taken(t, s, api.KindPair, 3)
		s.Poke(4, 0)
		if fullUp {
			taken(t, s, api.KindVector, 40)
		}
		before := s.Dump()
		for _, n := range append(wild(), 0, 1025) {
			for _, shape := range [][2]int{{api.KindVector, n}, {n, 3}, {n, n}, {api.KindSpine, n}, {14, 3}, {31, 4}} {
				if at, fault := s.Alloc(shape[0], shape[1], 1); at != 0 || fault != (api.Fault{Err: api.ErrShape}) {
					t.Errorf("P806: Alloc%v = %d, %v", shape, at, fault)
				}
			}
		}
		if !sameDump(s.Dump(), before) {
			t.Errorf("P806: Alloc of no shape has changed something: %v", s.Dump())
		}
	}
}

func TestP806Full(t *testing.T) {
	s := made(t, 3)
	vectors(t, s, 3, 17)
	taken(t, s, api.KindBox, 2)
	before := s.Dump()
	for _, r := range []struct{ kind, size int }{{3, 6}, {3, 33}, {3, 64}, {3, 128}, {3, 1024}, {6, 32}, {12, 9}, {11, 9}} {
		if at, fault := s.Alloc(r.kind, r.size, 0); at != 0 || fault != (api.Fault{Err: api.ErrFull}) {
			t.Errorf("P806: Alloc(%d, %d) = %d, %v", r.kind, r.size, at, fault)
		}
	}
	if !sameDump(s.Dump(), before) {
		t.Errorf("P806: Alloc without room has changed something: %v", s.Dump())
	}
	if at := taken(t, s, api.KindPair, 3); at != 68 {
		t.Errorf("P806: a pair stands at %d, want 68", at)
	}
	if b, _ := s.Block(68); b.Serial != 19 {
		t.Errorf("P806: what failed has taken a serial: %v", b)
	}
}

// A row of free pages that is too short is none, however many there are in all.
func TestP806RowsBetweenOthers(t *testing.T) {
	s := made(t, 9)
	places := vectors(t, s, 64, 9)
	s.Keep([]int{places[2], places[5]})
	if _, fault := s.Alloc(api.KindVector, 200, 0); fault != (api.Fault{Err: api.ErrFull}) {
		t.Errorf("P806: four pages, where there are rows of 2, 2 and 3: %v", fault)
	}
	if got := []int{taken(t, s, 3, 129), taken(t, s, 3, 65), taken(t, s, 3, 3), taken(t, s, 3, 33)}; !slices.Equal(got, []int{6 * 64, 0, 3 * 64, 4 * 64}) {
		t.Errorf("P806: runs and pages stand at %v", got)
	}
}

func TestP806Corrupt(t *testing.T) {
	for size := 1; size <= 20; size++ {
		s := made(t, 2)
		words := roomOf(size)
		taken(t, s, api.KindVector, size)
		for _, w := range []int{0, -4, 4, value.Link(words), value.Link(2*words) + 1, value.Link(3 * words), -value.Link(2 * words), header.Make(words, 3, size), greatest, least} {
			s.Poke(words, w)
			before := s.Dump()
			if at, fault := s.Alloc(api.KindVector, size, 0); at != 0 || fault != (api.Fault{Err: api.ErrCorrupt, At: words}) {
				t.Fatalf("P806: the link %d ahead of an object of %d words: %d, %v", w, size, at, fault)
			}
			if !sameDump(s.Dump(), before) {
				t.Fatalf("P806: Alloc of a wrong link has changed something: %v", s.Dump())
			}
		}
		s.Poke(words, value.Link(2*words))
		if at := taken(t, s, api.KindVector, size); at != words {
			t.Fatalf("P806: the right link again: %d", at)
		}
		if b, _ := s.Block(words); b.Serial != 2 {
			t.Fatalf("P806: what failed has taken a serial: %v", b)
		}
	}
}

func TestP806OnlyTheBlockThatIsTakenIsLookedAt(t *testing.T) {
	s := made(t, 3)
	taken(t, s, api.KindBox, 2)
	taken(t, s, api.KindPair, 3)
	for _, at := range []int{0, 1, 2, 3, 4, 62, 64, 65, 69, 72, 124} {
		s.Poke(at, 99)
	}
	if at := taken(t, s, api.KindPair, 3); at != 68 {
		t.Errorf("P806: beside wrong words a pair stands at %d", at)
	}
	if _, fault := s.Alloc(api.KindPair, 3, 0); fault != (api.Fault{Err: api.ErrCorrupt, At: 72}) {
		t.Errorf("P806: the next one: %v", fault)
	}
	if at := taken(t, s, api.KindVector, 6); at != 128 {
		t.Errorf("P806: a new page beside wrong words: %d", at)
	}
}

// The last free block's link is -1: it is looked at, too; and where a class has no free block, a new page's words are not.
func TestP806TheLastFreeBlock(t *testing.T) {
	s := made(t, 2)
	vectors(t, s, 32, 1)
	for _, w := range []int{0, value.Link(0), value.Link(64), 4} {
		s.Poke(32, w)
		if _, fault := s.Alloc(api.KindVector, 32, 0); fault != (api.Fault{Err: api.ErrCorrupt, At: 32}) {
			t.Errorf("P806: the last link %d: %v", w, fault)
		}
	}
	s.Poke(32, -4)
	taken(t, s, api.KindVector, 32)
	s.Poke(64, 99)
	s.Poke(96, 99)
	if at := taken(t, s, api.KindVector, 32); at != 64 || s.Wrong() != -1 {
		t.Errorf("P806: in a new page: %d; wrong: %d", at, s.Wrong())
	}
}

func TestP806LeastFreeBlock(t *testing.T) {
	s := made(t, 4)
	pairs := vectors(t, s, 4, 40)
	s.Keep([]int{pairs[0], pairs[3], pairs[17], pairs[18], pairs[39]})
	want := []int{}
	for i := range 48 {
		if !slices.Contains([]int{0, 3, 17, 18, 39}, i) {
			want = append(want, 4*i)
		}
	}
	want = append(want, 192)
	if got := vectors(t, s, 3, len(want)); !slices.Equal(got, want) {
		t.Errorf("P806: free blocks are taken as %v, want %v", got, want)
	}
}

func TestP806LeastFreePage(t *testing.T) {
	s := made(t, 6)
	places := vectors(t, s, 64, 6)
	s.Keep([]int{places[0], places[2], places[3]})
	if got := []int{taken(t, s, 1, 3), taken(t, s, 2, 2), taken(t, s, 3, 6)}; !slices.Equal(got, []int{64, 256, 320}) {
		t.Errorf("P806: new pages begin at %v", got)
	}
}

func TestP806SerialsAndTags(t *testing.T) {
	s := made(t, 4)
	kinds := []int{1, 13, 2, 12, 13, 11, 6}
	sizes := []int{3, 4, 2, 5, 4, 5, 1}
	serials := []int{1, 0, 2, 0, 0, 3, 4}
	tags := []int{0, least, greatest, -1, 7, 7, 1 << 40}
	for i, kind := range kinds {
		at, _ := s.Alloc(kind, sizes[i], tags[i])
		if b, ok := s.Block(at); !ok || b != (api.Block{At: at, Kind: kind, Size: sizes[i], Serial: serials[i], Tag: tags[i]}) {
			t.Errorf("P806: object %d is %v", i, b)
		}
	}
	s.Keep(nil)
	for i := range 5 {
		if b, _ := s.Block(taken(t, s, 1, 3)); b.Serial != 5+i {
			t.Errorf("P806, P814: behind Keep the serial %d is given, want %d", b.Serial, 5+i)
		}
	}
}

func TestP806TheGreatestSpaceFilled(t *testing.T) {
	s := made(t, 4096)
	for i := range 131072 {
		if at, fault := s.Alloc(api.KindBox, 2, i); at != 2*i || fault != (api.Fault{}) {
			t.Fatalf("P806: box %d: %d, %v", i, at, fault)
		}
	}
	if _, fault := s.Alloc(api.KindBox, 2, 0); fault != (api.Fault{Err: api.ErrFull}) || s.Fits(1) {
		t.Errorf("P806: one box more: %v", fault)
	}
	if at, ok := s.Find(131072); at != 262142 || !ok || s.Wrong() != -1 || s.Use() != 1 || len(s.Blocks()) != 131072 {
		t.Errorf("P806: the last box: %d, %v", at, ok)
	}
	if n, e := s.Keep([]int{262142}); n != 131071 || e != api.OK || !s.Fits(1024) {
		t.Errorf("P814: of all boxes but one %d are freed, %d", n, e)
	}
}

func TestP805Fits(t *testing.T) {
	s := made(t, 9)
	places := vectors(t, s, 64, 9)
	s.Keep([]int{places[0], places[1], places[4], places[8]})
	pair := taken(t, s, api.KindPair, 3)
	// The pages 0 1, 3, 5 6 7 are free; the class 1 has 15 free blocks in page 2.
	s.Keep([]int{places[4], places[8], pair})
	for at := range 64 {
		s.Poke(at, -1)
	}
	if pair != 128 || s.Dump().Pages[3] != (api.Page{}) {
		t.Fatalf("P806: the pair stands at %d, the pages are %v", pair, s.Dump().Pages)
	}
	before := s.Dump()
	pairs := func(n int, behind ...int) []int { return append(slices.Repeat([]int{3}, n), behind...) }
	for _, r := range []struct {
		sizes []int
		want  bool
	}{
		{nil, true}, {[]int{192}, true}, {[]int{193}, false}, {[]int{1024}, false},
		{[]int{128, 192, 64}, true}, {[]int{192, 128, 64}, true}, {[]int{64, 128, 192}, false}, {[]int{64, 192}, true}, {[]int{64, 64, 128, 128}, false},
		{[]int{64, 64, 64, 128, 64}, true}, {[]int{6, 128, 64}, true}, {[]int{6, 192, 128}, false}, {[]int{128, 6, 192}, true}, {[]int{128, 6, 6, 8, 192}, false},
		{pairs(15, 128, 192, 64), true}, {pairs(16, 128, 192, 64), false}, {pairs(16, 192, 64, 64), true}, {pairs(31, 192, 64, 64), true}, {pairs(32, 192, 64, 64), false},
		{pairs(15 + 6*16), true}, {pairs(16 + 6*16), false}, {slices.Repeat([]int{2}, 6*32), true}, {slices.Repeat([]int{1}, 6*32+1), false},
		{slices.Repeat([]int{5}, 60), true}, {slices.Repeat([]int{6}, 61), false}, {slices.Repeat([]int{33}, 6), true}, {slices.Repeat([]int{33}, 7), false},
		{slices.Repeat([]int{32, 20}, 6), true}, {slices.Repeat([]int{32, 20}, 7), false}, {slices.Repeat([]int{20, 32}, 6), true},
	} {
		if got := s.Fits(r.sizes...); got != r.want {
			t.Errorf("P805: Fits(%v) = %v", r.sizes, got)
		}
	}
	if !sameDump(s.Dump(), before) {
		t.Errorf("P805: Fits has changed something: %v", s.Dump())
	}
}

func TestP805NoSize(t *testing.T) {
	s := made(t, 40)
	for _, size := range append(wild(), 0, 1025, 1026) {
		if s.Fits(size) || s.Fits(3, size) || s.Fits(size, 3) || s.Fits(3, 40, size, 100) {
			t.Errorf("P805: Fits with the size %d", size)
		}
	}
	for size := 1; size <= 1024; size++ {
		if !s.Fits(size) || !s.Fits(size, size) {
			t.Errorf("P805: two of the size %d do not fit 40 pages", size)
		}
	}
}

func TestP805EverySizeInASmallSpace(t *testing.T) {
	for n := 1; n <= 3; n++ {
		s := made(t, n)
		for size := 1; size <= 1024; size++ {
			if got := s.Fits(size); got != (size <= 64*n) {
				t.Errorf("P805: of %d pages: Fits(%d) = %v", n, size, got)
			}
		}
	}
}

// What Fits tells is what Alloc does, all sizes in all orders.
func TestP805FitsIsAlloc(t *testing.T) {
	sizes := []int{3, 32, 33, 65, 130}
	for code := range 5 * 5 * 5 * 5 * 5 {
		var list []int
		for rest := code; len(list) < 5; rest /= 5 {
			list = append(list, sizes[rest%5])
		}
		s := made(t, 6)
		places := vectors(t, s, 64, 3)
		s.Keep(places[1:2])
		fits, all := s.Fits(list...), true
		for _, size := range list {
			_, fault := s.Alloc(api.KindVector, size, 0)
			all = all && fault.Err == api.OK
		}
		if fits != all {
			t.Fatalf("P805: Fits(%v) = %v, but Alloc: %v", list, fits, all)
		}
	}
}

func TestP805WrongWordsAreNothing(t *testing.T) {
	s := made(t, 2)
	taken(t, s, api.KindPair, 3)
	for at := range 128 {
		s.Poke(at, 9)
	}
	if !s.Fits(slices.Repeat([]int{3}, 31)...) || s.Fits(slices.Repeat([]int{3}, 32)...) {
		t.Error("P805: among wrong words other objects fit")
	}
}

func TestP805ListIsLeftAlone(t *testing.T) {
	list := []int{3, 40, 2, 99, 98}
	s := made(t, 3)
	if !s.Fits(list[:3]...) || !slices.Equal(list, []int{3, 40, 2, 99, 98}) {
		t.Errorf("P805: Fits has changed its list: %v", list)
	}
}
