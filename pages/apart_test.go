package pages

import (
	"slices"
	"sync"
	"testing"

	"hearth/api"
)

// calls are all that a table of four pages may be asked to do that is not much like another one of them.
func calls() [][2]int {
	out := [][2]int{{takeClass, 0}, {takeClass, 8}, {takeRun, 0}}
	for n := 1; n <= 4; n++ {
		out = append(out, [2]int{takeRun, n}, [2]int{give, n - 1})
	}
	return out
}

// A table is told calls in every order, four behind each other; a copy is taken ahead of each, so that the copies carry the table's whole past.
func TestP703ToP707EveryOrder(t *testing.T) {
	type step struct {
		x *Table
		p plain
	}
	tables := []step{{made(t, 4), blank(4)}}
	for range 4 {
		var next []step
		for _, s := range tables {
			for _, c := range calls() {
				x := s.x.Copy()
				p, alike := call(x, s.p, c[0], c[1])
				if !alike {
					t.Fatalf("P703 to P705: call %v of %s answers otherwise", c, s.p)
				}
				same(t, "P703 to P705: behind a call", x, p)
				next = append(next, step{x, p})
			}
			same(t, "P707: calls upon copies", s.x, s.p)
		}
		tables = next
	}
}

func TestP703ToP706LongPasts(t *testing.T) {
	for _, n := range []int{1, 2, 5, 16, 17, 40, 200} {
		x := made(t, n)
		p, alike := run(x, blank(n), int64(n), 4000)
		if !alike {
			t.Fatalf("P703 to P706: a table of %d pages answers otherwise; it is to be %s", n, p)
		}
		same(t, "P703 to P706: in the end", x, p)
	}
}

func TestP707CopyHasNothingInCommon(t *testing.T) {
	for _, p := range tables(5) {
		x := of(t, p)
		c := x.Copy()
		if c == x {
			t.Fatalf("P707: the copy of %s is the table itself", p)
		}
		same(t, "P707: Copy", c, p)
		px, _ := run(x, p, 1, 20)
		same(t, "P707: a copy, the first table changed", c, p)
		pc, alike := run(c, p, 2, 20)
		if !alike {
			t.Fatalf("P707: the copy of %s answers otherwise", p)
		}
		same(t, "P707: the first table, its copy changed", x, px)
		same(t, "P707: the copy in the end", c, pc)
	}
}

func TestP707CopyOfACopy(t *testing.T) {
	x := of(t, "2.Hr.7")
	a := x.Copy()
	b := a.Copy()
	a.Give(2)
	x.TakeClass(1)
	same(t, "P707: the copy of a copy", b, "2.Hr.7")
	same(t, "P707: the copy between", a, "2....7")
	if page, e := b.TakeClass(4); page != 1 || e != api.OK {
		t.Errorf("P707: the next page of the copy of a copy: %d, %d", page, e)
	}
	if head, e := a.TakeRun(4); head != 1 || e != api.OK {
		t.Errorf("P707: the next run of the copy between: %d, %d", head, e)
	}
	same(t, "P707: the first table", x, "21Hr.7")
}

func TestP707CopyOfTheLongestTable(t *testing.T) {
	x := made(t, 4096)
	p, _ := run(x, blank(4096), 5, 2000)
	c := x.Copy()
	for page := range 4096 {
		x.Give(page)
	}
	same(t, "P707: a long copy", c, p)
	same(t, "P707: a long table given back", x, blank(4096))
}

func TestP707TablesInTurn(t *testing.T) {
	lengths := []int{1, 2, 5, 16, 17, 40}
	var all []*Table
	var plains []plain
	for _, n := range lengths {
		all, plains = append(all, made(t, n)), append(plains, blank(n))
	}
	for turn := range 60 {
		for i := range all {
			alike := true
			plains[i], alike = run(all[i], plains[i], int64(turn*100+i), 10)
			if !alike {
				t.Fatalf("P707: the table of %d pages answers otherwise, in turn with others", lengths[i])
			}
		}
	}
	for i := range all {
		same(t, "P707: in the end", all[i], plains[i])
	}
}

func TestP707TablesSideBySide(t *testing.T) {
	first := made(t, 50)
	alike := make([]bool, 8)
	var all sync.WaitGroup
	for w := range alike {
		x := first.Copy()
		all.Go(func() { _, alike[w] = run(x, blank(50), int64(w), 3000) })
	}
	all.Wait()
	if slices.Contains(alike, false) {
		t.Errorf("P707: tables side by side: %v", alike)
	}
	same(t, "P707: the table whose copies were changed", first, blank(50))
}

// A table that New refused is nil, and one that nobody made is empty: no call panics there.
func TestNoCallPanicsWithoutATable(t *testing.T) {
	refused, _ := New(0)
	for _, x := range []*Table{refused, {}, refused.Copy()} {
		same(t, "rule 1: without a table", x.Copy(), "")
		if x.Len() != 0 || x.Free() != 0 || len(x.All()) != 0 {
			t.Errorf("rule 1: %v has pages", x)
		}
		if _, ok := x.State(0); ok || x.Give(0) != api.ErrArg {
			t.Errorf("rule 1: %v has the page 0", x)
		}
		if _, e := x.TakeClass(0); e != api.ErrFull {
			t.Errorf("rule 1: %v has a page for a class: %d", x, e)
		}
		if _, e := x.TakeRun(1); e != api.ErrFull {
			t.Errorf("rule 1: %v has a page for a run: %d", x, e)
		}
	}
}
