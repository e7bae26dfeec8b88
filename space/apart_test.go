package space

import (
	"slices"
	"sync"
	"testing"

	"hearth/api"
)

func TestP801ToP814LongPasts(t *testing.T) {
	for _, n := range []int{1, 2, 3, 5, 9, 20} {
		for seed := range int64(4) {
			x := begun(made(t, n), n, seed)
			for turn := range 1500 {
				if !x.turn() {
					t.Fatalf("P801 to P814: %d pages, seed %d, turn %d: the space answers otherwise", n, seed, turn)
				}
				if turn%25 == 0 {
					same(t, "in the midst", x.s, x.p)
				}
			}
			same(t, "in the end", x.s, x.p)
		}
	}
}

func TestP815SpacesInTurn(t *testing.T) {
	var all []*past
	for n := 1; n <= 8; n++ {
		all = append(all, begun(made(t, n), n, int64(n)))
	}
	for range 100 {
		for _, x := range all {
			if !x.run(5) {
				t.Fatalf("P815: the space of %d pages answers otherwise, in turn with others", len(x.p.pages))
			}
		}
	}
	for _, x := range all {
		same(t, "P815: in the end", x.s, x.p)
	}
}

func TestP815SpacesSideBySide(t *testing.T) {
	alike := make([]bool, 8)
	var all sync.WaitGroup
	for w := range alike {
		x := begun(made(t, 6), 6, int64(w))
		all.Go(func() { alike[w] = x.run(1500) })
	}
	all.Wait()
	if slices.Contains(alike, false) {
		t.Errorf("P815: spaces side by side: %v", alike)
	}
}

func TestP815OneSpaceIsNotAnother(t *testing.T) {
	a, b := made(t, 2), made(t, 2)
	for range 3 {
		taken(t, a, api.KindPair, 3)
	}
	a.Poke(127, 9)
	same(t, "P815: beside a space that is used", b, blank(2))
	if at := taken(t, b, api.KindBox, 2); at != 0 {
		t.Errorf("P815: the first object of another space stands at %d", at)
	}
	if at, ok := b.Find(1); at != 0 || !ok {
		t.Errorf("P815: another space begins with other serials: %v", b.Blocks())
	}
	b.Keep(nil)
	if len(a.Blocks()) != 3 || a.Dump().Pages[0] != (api.Page{Kind: 1, Class: 1}) {
		t.Errorf("P815: another space's Keep: %v", a.Blocks())
	}
}

// A space that New refused is nil, and one that nobody made is empty: no call panics there.
func TestNoCallPanicsWithoutASpace(t *testing.T) {
	refused, _ := New(0)
	for _, s := range []*Space{refused, {}} {
		if _, ok := s.Peek(0); ok || s.Poke(0, 1) || s.Words() != 0 || s.Use() != 0 || s.Wrong() != -1 {
			t.Errorf("rule 1: %v has words", s)
		}
		if !s.Fits() || s.Fits(1) || s.Fits(33) || s.Fits(0) {
			t.Errorf("rule 1: %v has room", s)
		}
		for shape, want := range map[[2]int]api.Errno{{1, 3}: 20, {3, 33}: 20, {12, 5}: 20, {1, 4}: 24} {
			if at, fault := s.Alloc(shape[0], shape[1], 0); at != 0 || fault != (api.Fault{Err: want}) {
				t.Errorf("rule 1: %v: Alloc%v = %d, %v", s, shape, at, fault)
			}
		}
		if _, ok := s.Block(0); ok || s.Check(0).Err != api.ErrBlock || s.Write(0, 1, 1).Err != api.ErrBlock {
			t.Errorf("rule 1: %v has an object", s)
		}
		if _, fault := s.Read(0, 1); fault.Err != api.ErrBlock {
			t.Errorf("rule 1: %v is read: %v", s, fault)
		}
		if _, ok := s.Find(1); ok || len(s.Blocks()) != 0 || len(slices.Collect(s.All())) != 0 {
			t.Errorf("rule 1: %v has objects", s)
		}
		if n, e := s.Keep(nil); n != 0 || e != api.OK {
			t.Errorf("rule 1: %v: Keep() = %d, %d", s, n, e)
		}
		if n, e := s.Keep([]int{0}); n != 0 || e != api.ErrBlock {
			t.Errorf("rule 1: %v: Keep(0) = %d, %d", s, n, e)
		}
		if d := s.Dump(); !sameDump(d, api.Dump{Heads: [8]int{-1, -1, -1, -1, -1, -1, -1, -1}}) {
			t.Errorf("rule 1: %v: Dump() = %v", s, d)
		}
	}
}
