package sweep

import (
	"slices"
	"testing"

	"hearth/api"
	"hearth/table"
)

// chapter is the heap of the chapter's examples.
func chapter(t *testing.T) (h *table.Heap, a, e, b, w api.Value) {
	t.Helper()
	h = heap(t, 2)
	a = thing(t, h, 2, 0, 0)
	e = thing(t, h, 9, 0, 0)
	b = thing(t, h, 1, 0, 0)
	w = thing(t, h, 8, 0, 0, a, null)
	set(t, h, e, 1, a)
	set(t, h, e, 2, b)
	return h, a, e, b, w
}

func TestP1401ToP1405ChapterExamples(t *testing.T) {
	h, a, e, _, w := chapter(t)
	for _, m := range []api.Marks{
		{Live: []int{e.N, e.N}},
		{Live: []int{e.N + 1}},
		{Dead: []int{e.N}},
		{Live: []int{a.N}, Weak: []int{a.N}},
	} {
		refuses(t, "P1401", h, m, api.Fault{Err: 1})
	}
	sweeps(t, "P1402", h, marks(values{e}, values{e}, nil), api.Report{Kept: 1, Freed: 3, Cleared: 1})
	if word(h, e.N+1) != brokenWord || word(h, e.N+2) != brokenWord {
		t.Errorf("P1402: the ephemeron has %d, %d", word(h, e.N+1), word(h, e.N+2))
	}
	h, _, _, _, w = chapter(t)
	sweeps(t, "P1402", h, marks(values{w}, nil, values{w}), api.Report{Kept: 1, Freed: 3, Broken: 1})
	if v, fault := h.Get(w, 1); v != broken || fault.Err != 0 {
		t.Errorf("P1402: the weak pair has %v, %v", v, fault)
	}
	h, _, _, _, _ = chapter(t)
	sweeps(t, "P1404", h, api.Marks{}, api.Report{Freed: 4})
	if len(h.Blocks()) != 0 {
		t.Errorf("P1404: %v are left", h.Blocks())
	}
}

// zoo is a heap with an object of each kind, at the kind's number; 12 and 13 are the table's spine and entry.
func zoo(t *testing.T) (*table.Heap, []api.Value) {
	t.Helper()
	h := heap(t, 40)
	out := make([]api.Value, 14)
	out[2] = box(t, h, null)
	for _, kind := range []int{11, 10, 9, 8, 7, 6, 5, 3, 1} {
		out[kind] = thing(t, h, kind, map[int]int{3: 4, 6: 2, 11: 3}[kind], map[int]int{6: 5, 11: 5}[kind])
	}
	out[4], _ = h.MakeText([]byte("hearth!?!"))
	put(t, h, out[10], fixnum(6), fixnum(7))
	out[12], out[13] = spineOf(h, out[10]), entryOf(t, h, out[10], fixnum(6))
	set(t, h, out[8], 1, out[2])
	set(t, h, out[9], 1, out[2])
	set(t, h, out[9], 2, out[1])
	return h, out
}

// all are the places of all objects.
func all(h *table.Heap) []int {
	var out []int
	for b := range h.All() {
		out = append(out, b.At)
	}
	return out
}

func TestP1401ListsThatDoNotRise(t *testing.T) {
	h := heap(t, 8)
	var ephs, weaks []int
	for range 4 {
		ephs, weaks = append(ephs, eph(t, h, null, null).N), append(weaks, weak(t, h, null, null).N)
	}
	live := all(h)
	for _, order := range [][]int{{0, 0}, {1, 0}, {0, 1, 1}, {0, 2, 1}, {0, 1, 2, 2}, {0, 1, 3, 2}, {3, 2, 1, 0}, {0, 1, 2, 3, 0}} {
		var bad, dead, soft []int
		for _, i := range order {
			bad, dead, soft = append(bad, live[i]), append(dead, ephs[i]), append(soft, weaks[i])
		}
		refuses(t, "P1401", h, api.Marks{Live: bad}, api.Fault{Err: 1})
		refuses(t, "P1401", h, api.Marks{Live: live, Dead: dead}, api.Fault{Err: 1})
		refuses(t, "P1401", h, api.Marks{Live: live, Weak: soft}, api.Fault{Err: 1})
	}
	sweeps(t, "P1401", h, api.Marks{Live: live, Dead: ephs, Weak: weaks}, api.Report{Kept: 8, Broken: 4, Cleared: 4})
}

func TestP1401PlacesOfNoObject(t *testing.T) {
	h, list := zoo(t)
	gone := box(t, h, null)
	live := slices.DeleteFunc(all(h), func(at int) bool { return at == gone.N })
	h.Keep(live)
	for _, at := range []int{least, -8, -1, list[1].N + 1, list[1].N + 2, list[3].N + 1, gone.N, 63, 2559, 2560, 262144, 1 << 32, 1<<32 + list[1].N, greatest} {
		more := append(slices.Clone(live), at)
		slices.Sort(more)
		refuses(t, "P1401", h, api.Marks{Live: []int{at}}, api.Fault{Err: 1})
		refuses(t, "P1401", h, api.Marks{Live: more}, api.Fault{Err: 1})
		refuses(t, "P1401", h, api.Marks{Live: live, Dead: []int{at}}, api.Fault{Err: 1})
		refuses(t, "P1401", h, api.Marks{Live: live, Weak: []int{at}}, api.Fault{Err: 1})
		refuses(t, "P1401", h, api.Marks{Dead: []int{at}}, api.Fault{Err: 1})
		refuses(t, "P1401", h, api.Marks{Weak: []int{at}}, api.Fault{Err: 1})
	}
}

// What is dead is an ephemeron or an entry, what is weak a weak pair, and all of them are live.
func TestP1401Kinds(t *testing.T) {
	for kind := 1; kind <= 13; kind++ {
		h, list := zoo(t)
		live, own := all(h), []int{list[kind].N}
		others := slices.DeleteFunc(slices.Clone(live), func(at int) bool { return at == own[0] })
		for _, c := range []struct {
			m  api.Marks
			ok bool
		}{
			{api.Marks{Live: live, Dead: own}, kind == 9 || kind == 13},
			{api.Marks{Live: live, Weak: own}, kind == 8},
			{api.Marks{Live: others, Dead: own}, false},
			{api.Marks{Live: others, Weak: own}, false},
			{api.Marks{Live: live, Dead: own, Weak: own}, false},
		} {
			if !c.ok {
				refuses(t, "P1401", h, c.m, api.Fault{Err: 1})
				continue
			}
			want := api.Report{Kept: 11}
			switch kind {
			case 8:
				want.Broken = 1
			case 9:
				want.Cleared = 1
			case 13:
				want.Pruned = 1
			}
			sweeps(t, "P1401", h, c.m, want)
		}
	}
}

// tabled is a heap with a table behind most of what belongs to it: the entries stand ahead of it, the spine behind it.
type tabled struct {
	h     *table.Heap
	m     api.Value // its serial is 1
	spine api.Value
	e     []api.Value // the first three in the row 1, the fourth in the row 3, the last in none
}

func newTabled(t *testing.T) tabled {
	t.Helper()
	x := tabled{h: heap(t, 8)}
	for range 5 {
		x.e = append(x.e, thing(t, x.h, 13, 0, 1))
	}
	x.m = thing(t, x.h, 10, 0, 0)
	x.spine = thing(t, x.h, 12, 4, 1)
	set(t, x.h, x.m, 2, x.spine)
	set(t, x.h, x.spine, 2, x.e[0])
	set(t, x.h, x.e[0], 3, x.e[1])
	set(t, x.h, x.e[1], 3, x.e[2])
	set(t, x.h, x.spine, 4, x.e[3])
	for i, e := range x.e {
		set(t, x.h, e, 1, fixnum(i))
		set(t, x.h, e, 2, fixnum(10+i))
	}
	x.h.SetRaw(x.m, 1, 4)
	return x
}

// looked are the indices of the words that are looked at, rising.
func (x tabled) looked() []int {
	out := []int{x.m.N, x.m.N + 2}
	for i := range 5 {
		out = append(out, x.spine.N+i)
	}
	for _, e := range x.e[:4] {
		out = append(out, e.N, e.N+1, e.N+3)
	}
	slices.Sort(out)
	return out
}

func TestP1401WrongWords(t *testing.T) {
	x := newTabled(t)
	for _, m := range []api.Marks{
		{Live: []int{x.m.N}}, // whether the spine and the entries are live is nothing to this
		{Live: all(x.h)},
		marks(values{x.m, x.e[1], x.e[4]}, values{x.e[1], x.e[4]}, nil),
	} {
		for _, at := range x.looked() {
			for _, w := range []int{7, 6, 5, 4, 50, 1<<20 + 1, x.m.N*8 + 9, 0xD800*8 + 3, -5, least + 1} {
				with(x.h, at, w, func() { refuses(t, "P1401", x.h, m, corrupt(at)) })
			}
		}
	}
	own := x.e[0].N*8 + 1
	for _, at := range []int{x.m.N, x.m.N + 2, x.spine.N, x.e[0].N, x.e[0].N + 1, x.e[0].N + 3, x.e[1].N + 3} {
		with(x.h, at, own, func() { refuses(t, "P1401", x.h, api.Marks{Live: all(x.h)}, corrupt(at)) })
	}
}

// Values, raw words, and all that is no table's, or the table's no longer, are not looked at.
func TestP1401WordsThatAreNotLookedAt(t *testing.T) {
	x := newTabled(t)
	a := box(t, x.h, null)
	w, e := weak(t, x.h, null, a), eph(t, x.h, null, null)
	other := thing(t, x.h, 10, 0, 0)
	put(t, x.h, other, null, null)
	for i := range x.h.Words() {
		if b, ok := x.h.Block(i); ok && (b.Tag == 1 || b.At == x.m.N) && b.At != x.e[4].N {
			for _, e := range x.e[:4] {
				x.h.Poke(e.N+2, 7)
			}
		} else if ok {
			for j := range b.Size {
				x.h.Poke(b.At+j, 7)
			}
		}
	}
	x.h.Poke(x.m.N+1, -7)
	d := x.h.Dump()
	for _, at := range d.Heads {
		if at >= 0 {
			x.h.Poke(at, 7)
		}
	}
	live := values{x.m, x.spine, x.e[0], x.e[1], x.e[2], x.e[3], x.e[4], a, w, e}
	sweeps(t, "P1401", x.h, marks(live, values{e, x.e[4]}, values{w}), api.Report{Kept: 4, Freed: 1, Broken: 1, Cleared: 1, Pruned: 1})
	if word(x.h, w.N) != 7 || word(x.h, w.N+1) != brokenWord || word(x.h, w.N+2) != 7 || word(x.h, e.N) != 7 || word(x.h, e.N+2) != brokenWord {
		t.Errorf("P1402: with wrong headers nothing was broken")
	}
	if n, _ := x.h.TableCount(x.m); n != 4 {
		t.Errorf("P1403: the count is %d", n)
	}
	if h, f := Sweep(x.h, api.Marks{Live: []int{a.N}}); h != (api.Report{Kept: 1, Freed: 3}) || f.Err != 0 {
		t.Errorf("P1404: with a wrong header: %v, %v", h, f)
	}
}

// Of several wrong words the least is told; a wrong header keeps no other word from being looked at.
func TestP1401TheLeast(t *testing.T) {
	x := newTabled(t)
	m := api.Marks{Live: all(x.h)}
	list := slices.DeleteFunc(x.looked(), func(at int) bool { // what leads to others stays right
		return at == x.m.N+2 || at == x.spine.N+2 || at == x.spine.N+4 || at == x.e[0].N+3 || at == x.e[1].N+3
	})
	for i, a := range list {
		for _, b := range list[i:] {
			with(x.h, b, 7, func() { with(x.h, a, 7, func() { refuses(t, "P1401", x.h, m, corrupt(a)) }) })
		}
	}
	for _, at := range slices.Backward(list) {
		x.h.Poke(at, 7)
		refuses(t, "P1401", x.h, m, corrupt(at))
	}
}

// A wrong word leads nowhere: what is wrong behind it is not told, even if it stands at a lesser index.
func TestP1401WrongWordsLeadNowhere(t *testing.T) {
	x := newTabled(t)
	m := api.Marks{Live: all(x.h)}
	for _, c := range []struct{ leads, behind int }{
		{x.m.N + 2, x.e[0].N}, {x.m.N + 2, x.e[3].N + 1}, {x.m.N + 2, x.e[2].N + 3},
		{x.spine.N + 2, x.e[0].N}, {x.spine.N + 2, x.e[1].N + 1}, {x.spine.N + 2, x.e[2].N + 3}, {x.spine.N + 4, x.e[3].N},
	} {
		with(x.h, c.behind, 7, func() {
			refuses(t, "P1401", x.h, m, corrupt(c.behind))
			with(x.h, c.leads, 7, func() { refuses(t, "P1401", x.h, m, corrupt(c.leads)) })
			with(x.h, c.leads, c.behind/4*32+3, func() { refuses(t, "P1401: a char", x.h, m, corrupt(c.leads)) })
		})
	}
	for i := range 2 { // neither does a nil one
		x := newTabled(t)
		x.h.Poke(x.e[1].N, 7)
		x.h.Poke([]int{x.m.N + 2, x.spine.N + 2}[i], nilWord)
		sweeps(t, "P1401", x.h, m, api.Report{Kept: 1})
		if n := word(x.h, x.m.N+1); n != i {
			t.Errorf("P1403: the count is %d, want %d", n, i)
		}
	}
}

// Wrong words of two tables: the least of all.
func TestP1401ManyTables(t *testing.T) {
	h := heap(t, 20)
	var list []api.Value
	var words []int
	for i := range 6 {
		m := thing(t, h, 10, 0, 0)
		put(t, h, m, fixnum(i), null)
		e := entryOf(t, h, m, fixnum(i)).N
		list = append(list, m)
		words = append(words, m.N, spineOf(h, m).N+1, spineOf(h, m).N, e, e+1, e+3)
	}
	for i, a := range words {
		for j, b := range words {
			with(h, a, 7, func() {
				with(h, b, 7, func() {
					told := []int{a, b}
					if i/6 == j/6 { // one may lead to the other
						return
					}
					refuses(t, "P1401", h, marks(list, nil, nil), corrupt(slices.Min(told)))
					refuses(t, "P1401", h, marks(list[i/6:i/6+1], nil, nil), corrupt(a))
				})
			})
		}
	}
}

// Marks that are none are told ahead of wrong words.
func TestP1401Order(t *testing.T) {
	x := newTabled(t)
	live := all(x.h)
	for _, at := range x.looked() {
		with(x.h, at, 7, func() {
			refuses(t, "P1401", x.h, api.Marks{Live: append(slices.Clone(live), greatest)}, api.Fault{Err: 1})
			refuses(t, "P1401", x.h, api.Marks{Live: live, Dead: []int{x.m.N}}, api.Fault{Err: 1})
			refuses(t, "P1401", x.h, api.Marks{Live: live, Weak: []int{x.m.N}}, api.Fault{Err: 1})
			refuses(t, "P1401", x.h, api.Marks{Live: live}, corrupt(at))
		})
	}
}

// Weak pairs of Weak and ephemerons of Dead are broken, whatever stands there; others stay as they are.
func TestP1402Clearing(t *testing.T) {
	for _, v := range []api.Value{null, fixnum(-1), char(65), broken, ref(0)} {
		h := heap(t, 8)
		a := box(t, h, null)
		if v.Kind == 2 {
			v = a
		}
		var list values
		for range 4 {
			list = append(list, weak(t, h, v, a), eph(t, h, v, a))
		}
		live := append(values{a}, list...)
		sweeps(t, "P1402", h, marks(live, values{list[1], list[5]}, values{list[0], list[6]}), api.Report{Kept: 9, Broken: 2, Cleared: 2})
		for i, x := range list {
			car, _ := h.Get(x, 1)
			cdr, _ := h.Get(x, 2)
			want := [][2]api.Value{{v, a}, {broken, a}, {broken, broken}}[map[int]int{0: 1, 6: 1, 1: 2, 5: 2}[i]]
			if car != want[0] || cdr != want[1] {
				t.Errorf("P1402: the object %d has %v, %v, want %v", i, car, cdr, want)
			}
		}
	}
}

// Each set of a table's entries goes.
func TestP1403Pruning(t *testing.T) {
	for set := range 32 {
		x := newTabled(t)
		other := thing(t, x.h, 10, 0, 0)
		put(t, x.h, other, fixnum(1), fixnum(2))
		var dead values
		for i, e := range x.e {
			if set>>i&1 == 1 {
				dead = append(dead, e)
			}
		}
		sweeps(t, "P1403", x.h, api.Marks{Live: all(x.h), Dead: places(dead)}, api.Report{Kept: 2, Pruned: len(dead)})
		count := 0
		for i, e := range x.e {
			_, there := x.h.Block(e.N)
			if there == slices.Contains(dead, e) {
				t.Errorf("P1404: of %v the entry %v is %v", dead, e, there)
			}
			if there && i < 4 {
				count++
			}
		}
		if n, fault := x.h.TableCount(x.m); n != count || fault.Err != 0 {
			t.Errorf("P1403: the count is %d, %v, want %d", n, fault, count)
		}
		if v, ok, fault := x.h.TableGet(other, fixnum(1)); v != fixnum(2) || !ok || fault.Err != 0 {
			t.Errorf("P1403: the other table has %v, %v, %v", v, ok, fault)
		}
		if list := newPlain(x.h.Dump()).wrong(); len(list) > 0 {
			t.Errorf("P1406: the words %v are wrong", list)
		}
	}
}

// The count of a table that loses none is mended too; that of one that is not live is not.
func TestP1403Counts(t *testing.T) {
	for _, n := range []int{least, -1, 0, 3, 5, greatest} {
		x := newTabled(t)
		bare := thing(t, x.h, 10, 0, 0)
		x.h.SetRaw(x.m, 1, n)
		x.h.SetRaw(bare, 1, n)
		sweeps(t, "P1403", x.h, api.Marks{Live: all(x.h)}, api.Report{Kept: 2})
		if word(x.h, x.m.N+1) != 4 || word(x.h, bare.N+1) != 0 || word(x.h, bare.N+2) != nilWord {
			t.Errorf("P1403: the counts are %d, %d", word(x.h, x.m.N+1), word(x.h, bare.N+1))
		}
	}
}

// Heads and chains that were led astray by right values: each entry is gone over once, and none of them leads to one that is gone.
func TestP1403EntriesThatAreMetTwice(t *testing.T) {
	for set := range 16 {
		x := newTabled(t)
		x.h.Set(x.spine, 1, x.e[0])
		x.h.Set(x.spine, 3, x.e[1])
		x.h.Set(x.spine, 4, x.e[2])
		var dead values
		for i, e := range x.e[:4] {
			if set>>i&1 == 1 {
				dead = append(dead, e)
			}
		}
		sweeps(t, "P1403", x.h, api.Marks{Live: all(x.h), Dead: places(dead)}, api.Report{Kept: 1, Pruned: len(dead)})
		if list := newPlain(x.h.Dump()).wrong(); len(list) > 0 {
			t.Errorf("P1403: the words %v are wrong", list)
		}
		want := 0
		for _, e := range x.e[:3] {
			if !slices.Contains(dead, e) {
				want++
			}
		}
		if n := word(x.h, x.m.N+1); n != want {
			t.Errorf("P1403: the count is %d, want %d", n, want)
		}
	}
}

// What is not live is freed, its pages too; what is live stays where it is, with all its words.
func TestP1404Freeing(t *testing.T) {
	h := heap(t, 200)
	var list values
	for i := range 120 {
		list = append(list, thing(t, h, 3, i%7*9, 0), box(t, h, fixnum(i)))
	}
	for step := range 5 {
		var live values
		for i, v := range list {
			if i%5 != step {
				live = append(live, v)
			}
		}
		sweeps(t, "P1404", h, marks(live, nil, nil), api.Report{Kept: len(live), Freed: len(list) - len(live)})
		if got := all(h); !slices.Equal(got, places(live)) {
			t.Errorf("P1404: %v are kept", got)
		}
		list = live
	}
	sweeps(t, "P1404", h, api.Marks{}, api.Report{Freed: len(list)})
	if h.Use() != 0 || !h.Fits(1024) {
		t.Errorf("P1404: %v of an empty heap is in use", h.Use())
	}
}

// Spines and entries are counted nowhere but in Pruned.
func TestP1405Counts(t *testing.T) {
	h := heap(t, 40)
	m := thing(t, h, 10, 0, 0)
	var keys values
	for i := range 20 {
		keys = append(keys, box(t, h, null))
		put(t, h, m, keys[i], null)
	}
	var entries values
	spine := spineOf(h, m)
	for _, k := range keys {
		entries = append(entries, entryOf(t, h, m, k))
	}
	e, f, w := eph(t, h, keys[0], null), eph(t, h, keys[1], null), weak(t, h, keys[0], null)
	live := append(values{m, spine, e, f, w}, entries...)
	live = append(live, keys[5:]...)
	r, fault := Sweep(h, marks(live, append(values{e}, entries[:5]...), values{w}))
	if want := (api.Report{Kept: 19, Freed: 5, Broken: 1, Cleared: 1, Pruned: 5}); r != want || fault.Err != 0 {
		t.Errorf("P1405: the report is %v, %v, want %v", r, fault, want)
	}
	r, fault = Sweep(h, marks(values{m}, nil, nil))
	if want := (api.Report{Kept: 1, Freed: 18}); r != want || fault.Err != 0 {
		t.Errorf("P1405: the report is %v, %v, want %v", r, fault, want)
	}
	if list := newPlain(h.Dump()).wrong(); !slices.Equal(list, []int{m.N + 2}) {
		t.Errorf("P1406: the words %v are wrong, want the spine's alone", list)
	}
}

// An entry that is dead and that no row comes to counts as pruned, and is freed.
func TestP1405EntriesOutOfTheRows(t *testing.T) {
	x := newTabled(t)
	sweeps(t, "P1405", x.h, api.Marks{Live: all(x.h), Dead: places(x.e[4:])}, api.Report{Kept: 1, Pruned: 1})
	if n, _ := x.h.TableCount(x.m); n != 4 || len(all(x.h)) != 6 {
		t.Errorf("P1405: the count is %d, there are %v", n, all(x.h))
	}
	sweeps(t, "P1405: without its table", x.h, marks(x.e[:4], x.e[:2], nil), api.Report{Freed: 1, Pruned: 2})
	if got := all(x.h); !slices.Equal(got, places(x.e[2:4])) {
		t.Errorf("P1404: %v are kept", got)
	}
}
