package pages

import (
	"slices"
	"strings"
	"testing"

	"hearth/api"
)

func TestP701New(t *testing.T) {
	for _, n := range []int{1, 2, 3, 6, 15, 16, 17, 63, 64, 65, 1000, 4095, 4096} {
		x := made(t, n)
		same(t, "P701: at the beginning", x, blank(n))
		x.TakeClass(0)
		x.TakeRun(2)
		x.Give(0)
		if x.Len() != n {
			t.Errorf("P701: of %d pages, some taken: Len() = %d", n, x.Len())
		}
	}
}

func TestP701NewRefuses(t *testing.T) {
	for _, n := range append(wild(), 0) {
		if n == 4096 {
			continue
		}
		if x, e := New(n); x != nil || e != api.ErrArg {
			t.Errorf("P701: New(%d) = %v, %d", n, x, e)
		}
	}
}

func TestP702StatesOfClassesAndRuns(t *testing.T) {
	for c := range 8 {
		x := made(t, 3)
		x.TakeClass(c)
		got, ok := x.State(0)
		if !ok || got != (api.Page{Kind: api.PageClass, Class: c}) {
			t.Errorf("P702: a page of the class %d: %v, %v", c, got, ok)
		}
	}
	for n := 1; n <= 16; n++ {
		x := made(t, n+1)
		x.TakeRun(n)
		want := []api.Page{{Kind: api.PageHead, Run: n}}
		for range n - 1 {
			want = append(want, api.Page{Kind: api.PageRest})
		}
		want = append(want, api.Page{Kind: api.PageFree})
		for page := range want {
			if got, ok := x.State(page); !ok || got != want[page] {
				t.Errorf("P702: page %d of a run of %d: %v, %v, want %v", page, n, got, ok, want[page])
			}
		}
		if got := x.All(); !slices.Equal(got, want) {
			t.Errorf("P702: a run of %d: All() = %v, want %v", n, got, want)
		}
	}
}

func TestP702NoSuchPage(t *testing.T) {
	for _, p := range []plain{".", "7", "H", "HrrH", "7..Hr", "00000000"} {
		x := of(t, p)
		for _, page := range append(wild(), len(p), len(p)+1, len(p)+63, len(p)+64) {
			if got, ok := x.State(page); ok || got != (api.Page{}) {
				t.Errorf("P702: of %s State(%d) = %v, %v", p, page, got, ok)
			}
		}
	}
	x := made(t, 4096)
	if _, ok := x.State(4095); !ok {
		t.Error("P702: page 4095 of 4096 is none")
	}
	if _, ok := x.State(4096); ok {
		t.Error("P702: page 4096 of 4096 is one")
	}
}

func TestP702AllIsNewMemory(t *testing.T) {
	p := plain("2.Hrr0.")
	x := of(t, p)
	one, other := x.All(), x.All()
	for i := range one {
		one[i] = api.Page{Kind: 9, Class: 9, Run: 9}
	}
	_ = append(one, api.Page{Kind: 8})
	if !slices.Equal(other, p.all()) {
		t.Errorf("P702: one answer of All has changed another: %v", other)
	}
	same(t, "P702: an answer of All was changed", x, p)
	kept := x.All()
	x.TakeRun(1)
	x.Give(2)
	if !slices.Equal(kept, p.all()) {
		t.Errorf("P702: later calls have changed an answer of All: %v", kept)
	}
}

func TestP702LookingChangesNothing(t *testing.T) {
	for _, p := range tables(4) {
		x := of(t, p)
		for _, page := range append(wild(), 0, 1, 2, 3, 4) {
			x.State(page)
		}
		x.All()
		x.Free()
		x.Len()
		x.Copy()
		same(t, "P702: behind calls that look", x, p)
	}
}

func TestP703LeastFreePage(t *testing.T) {
	for _, p := range tables(5) {
		for c := range 8 {
			x := of(t, p)
			then, alike := call(x, p, takeClass, c)
			if !alike {
				t.Fatalf("P703: TakeClass(%d) of %s answers otherwise", c, p)
			}
			same(t, "P703: TakeClass", x, then)
		}
	}
}

func TestP703AllPagesOneByOne(t *testing.T) {
	x := made(t, 4096)
	for page := range 4096 {
		if got, e := x.TakeClass(page % 8); got != page || e != api.OK {
			t.Fatalf("P703: TakeClass = %d, %d, want page %d", got, e, page)
		}
	}
	if got, e := x.TakeClass(0); got != 0 || e != api.ErrFull {
		t.Errorf("P703: TakeClass, no page free: %d, %d", got, e)
	}
	for page := range 4096 {
		if got, ok := x.State(page); !ok || got != (api.Page{Kind: api.PageClass, Class: page % 8}) {
			t.Fatalf("P703: page %d is %v, %v", page, got, ok)
		}
	}
}

func TestP703Refuses(t *testing.T) {
	for _, p := range []plain{"...", "3H.", "333", "Hrr", "HHH"} {
		x := of(t, p)
		for _, c := range append(wild(), 8, 9, 15, 16) {
			if page, e := x.TakeClass(c); page != 0 || e != api.ErrArg {
				t.Errorf("P703: TakeClass(%d) of %s: %d, %d", c, p, page, e)
			}
		}
		same(t, "P703: what is no class is refused", x, p)
		if p.free() > 0 {
			continue
		}
		for c := range 8 {
			if page, e := x.TakeClass(c); page != 0 || e != api.ErrFull {
				t.Errorf("P703: TakeClass(%d) of %s: %d, %d", c, p, page, e)
			}
		}
		same(t, "P703: no page is free", x, p)
	}
}

func TestP704LowestRow(t *testing.T) {
	for _, p := range tables(6) {
		for n := 1; n <= 7; n++ {
			x := of(t, p)
			then, alike := call(x, p, takeRun, n)
			if !alike {
				t.Fatalf("P704: TakeRun(%d) of %s answers otherwise", n, p)
			}
			same(t, "P704: TakeRun", x, then)
		}
	}
}

func TestP704LongRows(t *testing.T) {
	for n := 1; n <= 16; n++ {
		short := strings.Repeat(".", n-1)
		rows := strings.Repeat(".", n)
		for _, p := range []plain{plain(short), plain(short + "5" + short), plain(short + "H" + rows), plain(rows + "3" + rows), plain(short + "Hr" + short + "7" + rows + "..H")} {
			if p == "" {
				continue
			}
			x := of(t, p)
			then, alike := call(x, p, takeRun, n)
			if !alike {
				t.Fatalf("P704: TakeRun(%d) of %s answers otherwise", n, p)
			}
			same(t, "P704: TakeRun", x, then)
		}
	}
}

func TestP704AtTheEndOfTheLongestTable(t *testing.T) {
	for n := 1; n <= 16; n++ {
		p := plain(strings.Repeat(strings.Repeat(".", n-1)+"6", 4096))[:4096-n] + blank(n)
		p = p.put(4095-n, "6")
		x := of(t, p)
		if head, e := x.TakeRun(n); head != 4096-n || e != api.OK {
			t.Fatalf("P704: TakeRun(%d) = %d, %d", n, head, e)
		}
		if head, e := x.TakeRun(n); head != 0 || e != api.ErrFull {
			t.Fatalf("P704: TakeRun(%d) again = %d, %d", n, head, e)
		}
		same(t, "P704: a run of the last pages", x, p.put(4096-n, "H"+strings.Repeat("r", n-1)))
	}
}

func TestP704Refuses(t *testing.T) {
	for _, p := range []plain{blank(40), "3H.", "333", "Hrr", "HHH"} {
		x := of(t, p)
		for _, n := range append(wild(), 0, 17, 18, 32, 64, 1024) {
			if page, e := x.TakeRun(n); page != 0 || e != api.ErrArg {
				t.Errorf("P704: TakeRun(%d) of %s: %d, %d", n, p, page, e)
			}
		}
		same(t, "P704: what is no run is refused", x, p)
	}
	for _, p := range []plain{"333", "Hrr", "..3..", ".H.H."} {
		x := of(t, p)
		for n := 3; n <= 16; n++ {
			if page, e := x.TakeRun(n); page != 0 || e != api.ErrFull {
				t.Errorf("P704: TakeRun(%d) of %s: %d, %d", n, p, page, e)
			}
		}
		same(t, "P704: there is no row", x, p)
	}
}

func TestP705Give(t *testing.T) {
	for _, p := range tables(6) {
		for page := -1; page <= 6; page++ {
			x := of(t, p)
			then, alike := call(x, p, give, page)
			if !alike {
				t.Fatalf("P705: Give(%d) of %s answers otherwise", page, p)
			}
			same(t, "P705: Give", x, then)
			if e := x.Give(page); e != api.ErrArg {
				t.Fatalf("P705: Give(%d) of %s again: %d", page, p, e)
			}
			same(t, "P705: Give again", x, then)
		}
	}
}

func TestP705RunsOfAllLengths(t *testing.T) {
	for n := 1; n <= 16; n++ {
		run := plain("H" + strings.Repeat("r", n-1))
		p := "2" + run + run + run + "."
		x := of(t, p)
		for rest := n + 2; rest < 2*n+1; rest++ {
			if e := x.Give(rest); e != api.ErrArg {
				t.Errorf("P705: Give of a rest of a run of %d: %d", n, e)
			}
		}
		same(t, "P705: rests are not given back", x, p)
		if e := x.Give(n + 1); e != api.OK {
			t.Errorf("P705: Give of the head of a run of %d: %d", n, e)
		}
		same(t, "P705: a run between two others", x, "2"+run+blank(n)+run+".")
	}
}

func TestP705Classes(t *testing.T) {
	for c := range 8 {
		x := made(t, 3)
		for range 3 {
			x.TakeClass(c)
		}
		if e := x.Give(1); e != api.OK {
			t.Errorf("P705: Give of a page of the class %d: %d", c, e)
		}
		letter := plain(rune('0' + c))
		same(t, "P705: a class's page between others", x, letter+"."+letter)
	}
}

func TestP705Refuses(t *testing.T) {
	for _, p := range []plain{"...", "3H.", "333", "Hrr", "HHH", "7HrrH."} {
		x := of(t, p)
		for _, page := range append(wild(), len(p), len(p)+1, len(p)+64) {
			if e := x.Give(page); e != api.ErrArg {
				t.Errorf("P705: Give(%d) of %s: %d", page, p, e)
			}
		}
		same(t, "P705: what is no page is refused", x, p)
	}
}

func TestP706Free(t *testing.T) {
	x := made(t, 40)
	counts := []int{x.Free()}
	steps := []func(){
		func() { x.TakeClass(3) }, func() { x.TakeRun(16) }, func() { x.TakeRun(1) }, func() { x.TakeRun(17) },
		func() { x.TakeClass(9) }, func() { x.Give(5) }, func() { x.Give(1) }, func() { x.Give(1) },
		func() { x.Give(0) }, func() { x.TakeRun(16) }, func() { x.TakeRun(16) }, func() { x.TakeRun(16) },
	}
	for _, step := range steps {
		step()
		counts = append(counts, x.Free())
	}
	if want := []int{40, 39, 23, 22, 22, 22, 22, 38, 38, 39, 23, 7, 7}; !slices.Equal(counts, want) {
		t.Errorf("P706: Free() = %v, want %v", counts, want)
	}
	for _, p := range tables(6) {
		if got := of(t, p).Free(); got != p.free() {
			t.Errorf("P706: Free() of %s = %d", p, got)
		}
	}
}

func TestP703ToP706ChapterExamples(t *testing.T) {
	x := made(t, 6)
	steps := []struct {
		what, n int
		page    int
		err     api.Errno
		pages   plain
	}{
		{takeClass, 2, 0, 0, "2....."}, {takeClass, 0, 1, 0, "20...."},
		{takeRun, 3, 2, 0, "20Hrr."},
		{takeRun, 2, 0, 20, "20Hrr."}, {takeClass, 8, 0, 1, "20Hrr."}, {takeRun, 17, 0, 1, "20Hrr."}, {takeRun, 0, 0, 1, "20Hrr."},
		{give, 3, 0, 1, "20Hrr."}, {give, 5, 0, 1, "20Hrr."}, {give, -1, 0, 1, "20Hrr."},
		{give, 0, 0, 0, ".0Hrr."}, {give, 2, 0, 0, ".0...."},
		{takeRun, 4, 2, 0, ".0Hrrr"}, {takeClass, 7, 0, 0, "70Hrrr"},
		{takeClass, 1, 0, 20, "70Hrrr"},
	}
	for i, step := range steps {
		page, e := 0, api.OK
		switch step.what {
		case takeClass:
			page, e = x.TakeClass(step.n)
		case takeRun:
			page, e = x.TakeRun(step.n)
		case give:
			e = x.Give(step.n)
		}
		if page != step.page || e != step.err {
			t.Errorf("step %d: %d, %d, want %d, %d", i, page, e, step.page, step.err)
		}
		same(t, "the chapter's examples", x, step.pages)
	}
}

func TestP702ChapterExamples(t *testing.T) {
	x := of(t, "20Hrr.")
	for page, want := range map[int]api.Page{2: {Kind: 2, Run: 3}, 4: {Kind: 3}, 5: {}} {
		if got, ok := x.State(page); !ok || got != want {
			t.Errorf("P702: State(%d) = %v, %v", page, got, ok)
		}
	}
	if got, ok := x.State(6); ok || got != (api.Page{}) {
		t.Errorf("P702: State(6) = %v, %v", got, ok)
	}
}
