package pages

import (
	"math/rand"
	"slices"
	"strings"
	"testing"

	"hearth/api"
)

const (
	greatest = 1<<63 - 1
	least    = -1 << 63
)

// plain is a table as the chapter writes it: a letter for each page: a class, H and r: a run, a point: free.
type plain string

// blank is a plain table of free pages.
func blank(n int) plain { return plain(strings.Repeat(".", n)) }

// put is the table with other letters from a page on.
func (p plain) put(page int, letters string) plain {
	return p[:page] + plain(letters) + p[page+len(letters):]
}

func (p plain) takeClass(c int) (plain, int, api.Errno) {
	if c < 0 || c > 7 {
		return p, 0, 1
	}
	page := strings.Index(string(p), ".")
	if page < 0 {
		return p, 0, 20
	}
	return p.put(page, string(rune('0'+c))), page, 0
}

func (p plain) takeRun(n int) (plain, int, api.Errno) {
	if n < 1 || n > 16 {
		return p, 0, 1
	}
	page := strings.Index(string(p), strings.Repeat(".", n))
	if page < 0 {
		return p, 0, 20
	}
	return p.put(page, "H"+strings.Repeat("r", n-1)), page, 0
}

func (p plain) give(page int) (plain, api.Errno) {
	if page < 0 || page >= len(p) || p[page] == '.' || p[page] == 'r' {
		return p, 1
	}
	if p[page] != 'H' {
		return p.put(page, "."), 0
	}
	return p.put(page, strings.Repeat(".", p.run(page))), 0
}

// run is how many pages the run has whose head is that page.
func (p plain) run(head int) int {
	behind := string(p[head+1:])
	return 1 + len(behind) - len(strings.TrimLeft(behind, "r"))
}

func (p plain) state(page int) (api.Page, bool) {
	if page < 0 || page >= len(p) {
		return api.Page{}, false
	}
	switch letter := p[page]; letter {
	case '.':
		return api.Page{}, true
	case 'H':
		return api.Page{Kind: 2, Run: p.run(page)}, true
	case 'r':
		return api.Page{Kind: 3}, true
	default:
		return api.Page{Kind: 1, Class: int(letter - '0')}, true
	}
}

func (p plain) all() []api.Page {
	var out []api.Page
	for page := range len(p) {
		state, _ := p.state(page)
		out = append(out, state)
	}
	return out
}

func (p plain) free() int { return strings.Count(string(p), ".") }

// made is a table of so many pages.
func made(t testing.TB, n int) *Table {
	t.Helper()
	x, e := New(n)
	if x == nil || e != api.OK {
		t.Fatalf("P701: New(%d): %v, %d", n, x, e)
	}
	return x
}

// of is a table whose pages are those of p: all are taken, from page 0 on, then those that are free in p are given back.
func of(t testing.TB, p plain) *Table {
	t.Helper()
	x := made(t, len(p))
	for page := 0; page < len(p); {
		state, _ := p.state(page)
		if state.Kind == 2 {
			x.TakeRun(state.Run)
		} else {
			x.TakeClass(state.Class)
		}
		page += max(1, state.Run)
	}
	for page := range len(p) {
		if p[page] == '.' {
			x.Give(page)
		}
	}
	same(t, "P703 to P705: pages taken, then given back", x, p)
	return x
}

// same tells a fault, if the table's pages are not those of p.
func same(t testing.TB, what string, x *Table, p plain) {
	t.Helper()
	if x == nil || x.Len() != len(p) {
		t.Fatalf("%s: %v has not %d pages", what, x, len(p))
	}
	if got, want := x.All(), p.all(); !slices.Equal(got, want) {
		t.Fatalf("%s: All() = %v, want %v: %s", what, got, want, p)
	}
	if x.Free() != p.free() {
		t.Fatalf("%s: Free() = %d, want %d: %s", what, x.Free(), p.free(), p)
	}
	for page := range len(p) {
		got, ok := x.State(page)
		if want, _ := p.state(page); !ok || got != want {
			t.Fatalf("%s: State(%d) = %v, %v, want %v: %s", what, page, got, ok, want, p)
		}
	}
}

// tables are all plain tables of n pages whose pages are free, of the class 3, or of runs.
func tables(n int) []plain {
	if n == 0 {
		return []plain{""}
	}
	var out []plain
	for _, p := range tables(n - 1) {
		out = append(out, p+".", p+"3", p+"H")
		if n > 1 && (p[n-2] == 'H' || p[n-2] == 'r') {
			out = append(out, p+"r")
		}
	}
	return out
}

// wild are numbers far from all pages, classes and lengths; some look like small ones if their upper bits are lost.
func wild() []int {
	return []int{least, least + 1, least + 16, -1 << 32, 1 - 1<<32, -4097, -4096, -65, -64, -17, -16, -9, -8, -2, -1, 4096, 4097, 1 << 31, 1<<31 + 1, 1 << 32, 1<<32 + 1, 1<<32 + 7, 1<<32 + 16, 1 << 62, greatest - 1, greatest}
}

// Calls that are made upon a table and a plain one.
const (
	takeClass = iota
	takeRun
	give
)

// call makes a call upon both, and tells what the plain table is then, and whether both answered alike.
func call(x *Table, p plain, what, n int) (plain, bool) {
	var page, wantPage int
	var e, wantE api.Errno
	switch what {
	case takeClass:
		page, e = x.TakeClass(n)
		p, wantPage, wantE = p.takeClass(n)
	case takeRun:
		page, e = x.TakeRun(n)
		p, wantPage, wantE = p.takeRun(n)
	case give:
		e = x.Give(n)
		p, wantE = p.give(n)
	}
	return p, page == wantPage && e == wantE
}

// run makes calls without a rule upon a table and a plain one, and tells what the plain table is then, and whether both answered alike all the time.
func run(x *Table, p plain, seed int64, turns int) (plain, bool) {
	source := rand.New(rand.NewSource(seed))
	for range turns {
		alike := true
		switch source.Intn(5) {
		case 0:
			p, alike = call(x, p, takeClass, source.Intn(10)-1)
		case 1:
			p, alike = call(x, p, takeRun, source.Intn(19)-1)
		case 2:
			p, alike = call(x, p, takeRun, 1+source.Intn(4))
		default:
			p, alike = call(x, p, give, source.Intn(len(p)+4)-2)
		}
		if !alike || x.Free() != p.free() {
			return p, false
		}
	}
	return p, slices.Equal(x.All(), p.all())
}
