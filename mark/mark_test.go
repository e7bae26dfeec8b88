package mark

import (
	"slices"
	"testing"

	"hearth/api"
	"hearth/table"
)

// chapter is the heap of the chapter's examples.
func chapter(t *testing.T) (h *table.Heap, a, e, b, w api.Value) {
	t.Helper()
	h = heap(t, 2)
	a = thing(t, h, 2, 0, 0)
	e = thing(t, h, 9, 0, 0)
	b = thing(t, h, 1, 0, 0)
	w = thing(t, h, 8, 0, 0, a, null)
	set(t, h, e, 1, a)
	set(t, h, e, 2, b)
	return h, a, e, b, w
}

type values = []api.Value

func TestP1301ToP1304ChapterExamples(t *testing.T) {
	h, a, e, b, w := chapter(t)
	marks(t, "P1304", h, nil, nil, nil, nil)
	marks(t, "P1304", h, values{e}, values{e}, values{e}, nil)
	marks(t, "P1304", h, values{e, a}, values{a, e, b}, nil, nil)
	marks(t, "P1304", h, values{w}, values{w}, nil, values{w})
	marks(t, "P1304", h, values{w, a}, values{w, a}, nil, nil)
	refuses(t, "P1301", h, no(33), ref(1))
	with(h, b.N+1, 7, func() {
		marks(t, "P1303", h, values{a}, values{a}, nil, nil)
		refuses(t, "P1303", h, corrupt(b.N+1), e, a)
	})
	with(h, b.N, 0, func() { refuses(t, "P1303", h, corrupt(b.N)) })
	h = heap(t, 4)
	a = box(t, h, null)
	m := thing(t, h, 10, 0, 0)
	put(t, h, m, a, fixnum(1))
	s, x := spineOf(h, m), entryOf(t, h, m, a)
	marks(t, "P1304", h, values{m}, values{m, s, x}, values{x}, nil)
	marks(t, "P1304", h, values{m, a}, values{m, s, x, a}, nil, nil)
}

// zoo is a heap with an object of each kind, at the kind's number; 12 and 13 are the table's spine and entry.
func zoo(t *testing.T) (*table.Heap, []api.Value) {
	t.Helper()
	h := heap(t, 40)
	box(t, h, null)
	out := make([]api.Value, 14)
	for _, kind := range []int{11, 10, 9, 8, 7, 6, 5, 3, 2, 1} {
		out[kind] = thing(t, h, kind, map[int]int{3: 4, 6: 2, 11: 3}[kind], map[int]int{6: 5, 11: 5}[kind])
	}
	out[4], _ = h.MakeText([]byte("hearth!?!"))
	put(t, h, out[10], fixnum(6), fixnum(7))
	out[12], out[13] = spineOf(h, out[10]), entryOf(t, h, out[10], fixnum(6))
	return h, out
}

func TestP1301Roots(t *testing.T) {
	h, all := zoo(t)
	gone := box(t, h, null)
	var keep []int
	for b := range h.All() {
		if b.At != gone.N {
			keep = append(keep, b.At)
		}
	}
	h.Keep(keep)
	bad := append(strangers(), all[12], all[13], gone, ref(all[1].N+1), ref(all[1].N+2), ref(2559), ref(2560), ref(262144), ref(1<<32), ref(1<<32+all[1].N))
	for _, v := range bad {
		for _, roots := range []values{{v}, {all[1], v}, {v, null}, {null, v, all[11]}, {v, v}} {
			refuses(t, "P1301", h, no(33), roots...)
			for _, at := range []int{all[1].N, all[1].N + 1, gone.N} { // a wrong header, a wrong word, a wrong link
				with(h, at, 7, func() { refuses(t, "P1301: ahead of all else", h, no(33), roots...) })
			}
		}
	}
}

func TestP1301RootsOfEachKind(t *testing.T) {
	h, all := zoo(t)
	for kind := 1; kind <= 11; kind++ {
		live := values{all[kind]}
		if kind == 10 {
			live = values{all[10], all[12], all[13]}
		}
		marks(t, "P1301", h, values{all[kind]}, live, nil, nil)
		marks(t, "P1301: again and again", h, values{all[kind], null, all[kind], all[kind]}, live, nil, nil)
	}
}

// A root that is no reference reaches nothing, whatever its number is.
func TestP1301RootsThatReferToNothing(t *testing.T) {
	h, all := zoo(t)
	list := values{fixnum(1<<60 - 1), fixnum(-1 << 60), char(0xD7FF), char(0xE000), char(0x10FFFF)}
	for n := range 6 {
		list = append(list, api.Value{Kind: 3, N: n})
	}
	for _, v := range all[1:] {
		list = append(list, fixnum(v.N), char(v.N))
	}
	marks(t, "P1301", h, list, nil, nil, nil)
}

func TestP1301RootsInNoOrder(t *testing.T) {
	h := heap(t, 4)
	var all values
	for range 30 {
		all = append(all, box(t, h, null))
	}
	backward := slices.Clone(all)
	slices.Reverse(backward)
	marks(t, "P1301", h, all, all, nil, nil)
	marks(t, "P1301", h, backward, all, nil, nil)
}

// Each word of each kind of objects reaches what it refers to, or nothing, as its role says.
func TestP1302EachRole(t *testing.T) {
	h := heap(t, 40)
	a := box(t, h, null)
	frame, closure := thing(t, h, 11, 2, 5), thing(t, h, 6, 0, 5)
	for _, c := range []struct {
		kind, n, tag, word int
		to                 api.Value
		reached            bool
	}{
		{1, 0, 0, 1, a, true}, {1, 0, 0, 2, a, true}, {2, 0, 0, 1, a, true},
		{3, 4, 0, 1, a, true}, {3, 4, 0, 4, a, true}, {3, 1023, 0, 1023, a, true}, {3, 40, 0, 33, a, true},
		{6, 3, 9, 1, a, true}, {6, 3, 9, 3, a, true}, {6, 64, 9, 64, a, true},
		{7, 0, 0, 1, frame, true},
		{8, 0, 0, 1, a, false}, {8, 0, 0, 2, a, true},
		{9, 0, 0, 1, a, false}, {9, 0, 0, 2, a, true},
		{11, 2, 5, 1, frame, true}, {11, 2, 5, 2, closure, true}, {11, 2, 5, 5, a, true}, {11, 2, 5, 6, a, true}, {11, 128, 5, 132, a, true},
	} {
		v := thing(t, h, c.kind, c.n, c.tag)
		set(t, h, v, c.word, c.to)
		live, dead, weak := values{v}, values{}, values{}
		if c.reached {
			live = append(live, c.to)
		}
		if c.kind == 8 && c.word == 1 {
			weak = values{v}
		}
		if c.kind == 9 && c.word == 1 {
			dead = values{v}
		}
		marks(t, "P1302", h, values{v}, live, dead, weak)
	}
}

// Raw words reach nothing, even if they look like references.
func TestP1302RawWords(t *testing.T) {
	h, all := zoo(t)
	for kind, raws := range [][]int{4: {1, 2, 3}, 5: {1}, 10: {1}, 11: {3, 4}} {
		for _, i := range raws {
			h.Poke(all[kind].N+i, wordOf(all[1]))
		}
	}
	roots := values{all[4], all[5], all[10], all[11]}
	marks(t, "P1302", h, roots, append(roots, all[12], all[13]), nil, nil)
	for kind, raws := range [][]int{4: {1, 2, 3}, 5: {1}, 10: {1}, 11: {3, 4}} {
		for _, i := range raws {
			for _, w := range []int{7, 6, 50, 1<<20 + 1, -1, least, greatest} {
				with(h, all[kind].N+i, w, func() {
					marks(t, "P1303: raw words are not looked at", h, roots, append(roots, all[12], all[13]), nil, nil)
				})
			}
		}
	}
}

func TestP1302Cycles(t *testing.T) {
	h := heap(t, 4)
	a := pair(t, h, null, null)
	b := pair(t, h, a, a)
	set(t, h, a, 1, b)
	set(t, h, a, 2, a)
	c := box(t, h, a)
	frame := thing(t, h, 11, 0, 5)
	set(t, h, frame, 1, frame)
	marks(t, "P1302", h, values{b}, values{a, b}, nil, nil)
	marks(t, "P1302", h, values{c, frame}, values{a, b, c, frame}, nil, nil)
}

// Rows reach their entries, all of them and none of another table's, whatever the keys are.
func TestP1302Tables(t *testing.T) {
	h := heap(t, 20)
	m, other := thing(t, h, 10, 0, 0), thing(t, h, 10, 0, 0)
	marks(t, "P1302: a table without a spine", h, values{m}, values{m}, nil, nil)
	keys := values{box(t, h, null), fixnum(1), box(t, h, null), null, char(9), pair(t, h, null, null), fixnum(-5), box(t, h, null)}
	a, b := box(t, h, null), box(t, h, null)
	for i, k := range keys {
		put(t, h, m, k, values{a, b}[i%2])
		put(t, h, other, k, null)
	}
	live, dead := values{m, spineOf(h, m), a, b}, values{}
	for _, k := range keys {
		e := entryOf(t, h, m, k)
		live = append(live, e)
		if k.Kind == 2 {
			dead = append(dead, e)
		}
	}
	marks(t, "P1302", h, values{m}, live, dead, nil)
	marks(t, "P1302", h, values{m, keys[0], keys[2], keys[5], keys[7]}, append(live, keys[0], keys[2], keys[5], keys[7]), nil, nil)
	// What was taken away is not reached, even by the chain of what comes behind it.
	gone := entryOf(t, h, m, keys[1])
	h.TableDelete(m, keys[1])
	live = slices.DeleteFunc(live, func(v api.Value) bool { return v == gone })
	marks(t, "P1302", h, values{m}, live, dead, nil)
}

// A table that has grown has left its old spine behind.
func TestP1302OldSpines(t *testing.T) {
	h := heap(t, 8)
	m := thing(t, h, 10, 0, 0)
	put(t, h, m, fixnum(0), null)
	old := spineOf(h, m)
	for i := range 9 {
		put(t, h, m, fixnum(i), null)
	}
	live := values{m, spineOf(h, m)}
	for i := range 9 {
		live = append(live, entryOf(t, h, m, fixnum(i)))
	}
	if slices.Contains(live, old) {
		t.Fatalf("the table has not grown")
	}
	marks(t, "P1302", h, values{m}, live, nil, nil)
}

// Chains and heads that lead astray by right values are gone over as they stand.
func TestP1302TablesAstray(t *testing.T) {
	h := heap(t, 8)
	m := thing(t, h, 10, 0, 0)
	for i := range 4 {
		put(t, h, m, fixnum(i), null)
	}
	spine := spineOf(h, m)
	var all values
	for i := range 4 {
		all = append(all, entryOf(t, h, m, fixnum(i)))
		set(t, h, spine, 1+i, null)
	}
	slices.SortFunc(all, func(a, b api.Value) int { return a.N - b.N })
	for _, e := range all {
		set(t, h, e, 3, null)
	}
	marks(t, "P1302", h, values{m}, values{m, spine}, nil, nil)
	set(t, h, spine, 1, all[3])
	set(t, h, spine, 2, all[1])
	set(t, h, spine, 4, all[1])
	marks(t, "P1302", h, values{m}, values{m, spine, all[1], all[3]}, nil, nil)
	set(t, h, all[1], 3, all[3])
	set(t, h, all[0], 3, all[2])
	marks(t, "P1302", h, values{m}, values{m, spine, all[1], all[3]}, nil, nil)
	set(t, h, m, 2, null)
	marks(t, "P1302", h, values{m}, values{m}, nil, nil)
}

// guard is a thing with a key and a value: an ephemeron, or a table with one entry.
type guard struct {
	root  api.Value
	whole values // what is reached with it
	own   api.Value
}

// guards makes both, in one heap.
func guards(t *testing.T, h *table.Heap, k, v api.Value) []guard {
	t.Helper()
	e, m := eph(t, h, k, v), thing(t, h, 10, 0, 0)
	put(t, h, m, k, v)
	x := entryOf(t, h, m, k)
	return []guard{{e, values{e}, e}, {m, values{m, spineOf(h, m), x}, x}}
}

func TestP1302Keys(t *testing.T) {
	h := heap(t, 40)
	a, b := box(t, h, null), box(t, h, null)
	holder := box(t, h, a)
	for _, k := range []api.Value{fixnum(a.N), fixnum(-1), null, void, {Kind: 3, N: 4}, {Kind: 3, N: 5}, char(a.N)} {
		for _, x := range guards(t, h, k, b) {
			marks(t, "P1302: a key that is no reference", h, values{x.root}, append(x.whole, b), nil, nil)
		}
	}
	for _, x := range guards(t, h, a, b) {
		marks(t, "P1302: a dead key", h, values{x.root}, x.whole, values{x.own}, nil)
		marks(t, "P1302: a dead key, its value by itself", h, values{x.root, b}, append(x.whole, b), values{x.own}, nil)
		marks(t, "P1302: a key that is met first", h, values{a, x.root}, append(x.whole, a, b), nil, nil)
		marks(t, "P1302: a key that is met later", h, values{x.root, a}, append(x.whole, a, b), nil, nil)
		marks(t, "P1302: a key that is met by another", h, values{x.root, holder}, append(x.whole, holder, a, b), nil, nil)
	}
	for _, x := range guards(t, h, a, a) {
		marks(t, "P1302: a key that is its own value", h, values{x.root}, x.whole, values{x.own}, nil)
	}
	for _, x := range guards(t, h, a, holder) {
		marks(t, "P1302: a value that refers to its key", h, values{x.root}, x.whole, values{x.own}, nil)
		marks(t, "P1302: a value that refers to its key", h, values{x.root, holder}, append(x.whole, holder, a), nil, nil)
	}
	for _, x := range guards(t, h, a, fixnum(3)) {
		marks(t, "P1304: a dead key of a fixnum", h, values{x.root}, x.whole, values{x.own}, nil)
	}
	e := eph(t, h, null, b)
	set(t, h, e, 1, e)
	marks(t, "P1302: an ephemeron that is its own key", h, values{e}, values{e, b}, nil, nil)
	m := thing(t, h, 10, 0, 0)
	put(t, h, m, m, b)
	marks(t, "P1302: a table that is its own key", h, values{m}, values{m, spineOf(h, m), entryOf(t, h, m, m), b}, nil, nil)
}

// Many wait for one key, and what one of them lets go is another one's key.
func TestP1302Waiting(t *testing.T) {
	h := heap(t, 40)
	k := box(t, h, null)
	m := thing(t, h, 10, 0, 0)
	roots, live := values{m}, values{m, k}
	for range 20 {
		v := box(t, h, null)
		e := eph(t, h, k, v)
		roots, live = append(roots, e), append(live, e, v)
		w := pair(t, h, null, null)
		put(t, h, m, v, w)
		live = append(live, entryOf(t, h, m, v), w)
	}
	live = append(live, spineOf(h, m))
	marks(t, "P1302", h, append(roots, k), live, nil, nil)
	marks(t, "P1302", h, append(values{k}, roots...), live, nil, nil)
	dead := slices.DeleteFunc(slices.Clone(roots), func(v api.Value) bool { return v == m })
	for b := range h.All() {
		if b.Kind == 13 {
			dead = append(dead, ref(b.At))
		}
	}
	marks(t, "P1302", h, roots, append(dead, m, spineOf(h, m)), dead, nil)
}

// Two keys, each of which is reached by the other's value alone.
func TestP1302KeysOfOneAnother(t *testing.T) {
	h := heap(t, 4)
	a, b := box(t, h, null), box(t, h, null)
	x, y := eph(t, h, a, b), eph(t, h, b, a)
	marks(t, "P1302", h, values{x, y}, values{x, y}, values{x, y}, nil)
	marks(t, "P1302", h, values{x, y, a}, values{x, y, a, b}, nil, nil)
	marks(t, "P1302", h, values{x, b}, values{x, b}, values{x}, nil)
}

// An ephemeron that is not reached itself lets nothing go.
func TestP1302EphemeronsThatAreNotReached(t *testing.T) {
	h := heap(t, 4)
	a, b := box(t, h, null), box(t, h, null)
	e := eph(t, h, a, b)
	w := weak(t, h, e, null)
	marks(t, "P1302", h, values{a}, values{a}, nil, nil)
	marks(t, "P1302", h, values{a, w}, values{a, w}, nil, values{w})
	deep := eph(t, h, a, e)
	marks(t, "P1302", h, values{deep, a}, values{deep, a, e, b}, nil, nil)
}

// canary is a pair at a low place, with a wrong word: if it is reached, that is the least one.
func canary(t *testing.T, h *table.Heap) api.Value {
	t.Helper()
	v := pair(t, h, null, null)
	h.Poke(v.N+1, 7)
	return v
}

// A wrong key lets no value go; a wrong header keeps nothing back.
func TestP1302WrongWordsLeadNowhere(t *testing.T) {
	h := heap(t, 20)
	low := canary(t, h)
	for _, x := range guards(t, h, fixnum(1), low) {
		refuses(t, "P1302", h, corrupt(low.N+1), x.root)
		with(h, x.own.N, 7, func() { refuses(t, "P1302: a wrong header", h, corrupt(low.N+1), x.root) })
		for _, w := range []int{7, 6, 5, 4, 50, 1<<20 + 1, low.N*8 + 9} {
			with(h, x.own.N+1, w, func() { refuses(t, "P1302: a wrong key", h, corrupt(x.own.N+1), x.root) })
		}
	}
	a := box(t, h, null)
	for _, x := range guards(t, h, a, low) {
		marks(t, "P1302: a dead key", h, values{x.root}, x.whole, values{x.own}, nil)
		refuses(t, "P1302: a key that lives", h, corrupt(low.N+1), x.root, a)
		with(h, a.N, 7, func() {
			refuses(t, "P1302: a key with a wrong header", h, corrupt(low.N+1), x.root, a)
			refuses(t, "P1302: a dead key with a wrong header", h, corrupt(a.N), x.root)
		})
	}
}

// References that their roles do not allow are wrong, and lead nowhere: what they refer to is at a low place, and wrong too.
func TestP1302ReferencesOfOtherRoles(t *testing.T) {
	h := heap(t, 40)
	pairs := pair(t, h, null, null)
	frame, closure := thing(t, h, 11, 1, 4), thing(t, h, 6, 1, 4)
	spine, entry := thing(t, h, 12, 4, 99), thing(t, h, 13, 0, 99)
	lows := values{pairs, frame, closure, spine, entry}
	for _, v := range lows {
		h.Poke(v.N+1, 7)
	}
	m := thing(t, h, 10, 0, 0)
	for i := range 4 {
		put(t, h, m, fixnum(i), null)
	}
	own := spineOf(h, m)
	x := entryOf(t, h, m, fixnum(0))
	if x.N < entry.N {
		t.Fatalf("the entry stands at %d", x.N)
	}
	for _, c := range []struct {
		root api.Value
		at   int
		to   values
	}{
		{pair(t, h, null, null), 1, values{frame, spine, entry}},
		{thing(t, h, 3, 2, 0), 2, values{frame, spine, entry}},
		{weak(t, h, null, null), 1, values{frame, spine, entry}},
		{weak(t, h, null, null), 2, values{frame, spine, entry}},
		{eph(t, h, null, null), 1, values{frame, spine, entry}},
		{eph(t, h, null, null), 2, values{frame, spine, entry}},
		{thing(t, h, 7, 0, 0), 1, values{pairs, closure, spine, entry}},
		{thing(t, h, 11, 1, 5), 1, values{pairs, closure, spine, entry}},
		{thing(t, h, 11, 1, 5), 2, values{pairs, closure, frame, spine, entry}},
		{thing(t, h, 11, 1, 5), 5, values{frame, spine, entry}},
		{m, 2, values{pairs, frame, closure, spine, entry}},
		{m, own.N + 2 - m.N, values{pairs, frame, closure, spine, entry}},
		{m, x.N + 1 - m.N, values{frame, spine, entry}},
		{m, x.N + 2 - m.N, values{frame, spine, entry}},
		{m, x.N + 3 - m.N, values{pairs, frame, closure, spine, entry, x}},
	} {
		for _, v := range c.to {
			with(h, c.root.N+c.at, wordOf(v), func() { refuses(t, "P1302", h, corrupt(c.root.N+c.at), c.root) })
		}
	}
}

// All headers are looked at, reached or not.
func TestP1303Headers(t *testing.T) {
	h, all := zoo(t)
	for b := range h.All() {
		for _, w := range []int{0, 7, word(h, b.At) + 8, word(h, b.At) ^ 1, -1} {
			with(h, b.At, w, func() {
				refuses(t, "P1303", h, corrupt(b.At))
				refuses(t, "P1303", h, corrupt(b.At), all[1:12]...)
			})
		}
	}
	// The header of another object, at another place, is wrong there.
	with(h, all[1].N, word(h, all[8].N), func() { refuses(t, "P1303", h, corrupt(all[1].N)) })
}

// All links are looked at; other words of free blocks and of free pages are nothing.
func TestP1303Links(t *testing.T) {
	h, all := zoo(t)
	free := (&plain{d: h.Dump(), blocks: map[int]api.Block{}}).links()
	for b := range h.All() {
		delete(free, b.At)
	}
	if len(free) < 30 {
		t.Fatalf("there are %d free blocks", len(free))
	}
	for at := range free {
		for _, w := range []int{0, 7, at*8 + 4, word(h, at) + 8, -12} {
			with(h, at, w, func() { refuses(t, "P1303", h, corrupt(at), all[1]) })
		}
		with(h, at+1, 7, func() { marks(t, "P1303", h, values{all[1]}, values{all[1]}, nil, nil) })
	}
	for _, at := range []int{2496, 2559} {
		with(h, at, 7, func() { marks(t, "P1303", h, values{all[1]}, values{all[1]}, nil, nil) })
	}
}

// Of what is reached all words that are not raw are looked at; of what is not none but the header.
func TestP1303Words(t *testing.T) {
	h, all := zoo(t)
	owner := map[int]api.Value{12: all[10], 13: all[10]}
	for kind := 1; kind <= 13; kind++ {
		root, ok := owner[kind]
		if !ok {
			root = all[kind]
		}
		b, _ := h.Block(all[kind].N)
		for i := 1; i < b.Size; i++ {
			if role(kind, i) == 1 {
				continue
			}
			for _, w := range []int{7, 6, 5, 4, 50, 1<<20 + 1, (all[1].N+1)*8 + 1, (0xD800)*8 + 3, -5, least + 1} {
				with(h, b.At+i, w, func() {
					refuses(t, "P1303", h, corrupt(b.At+i), root)
					marks(t, "P1303: out of sight", h, nil, nil, nil, nil)
				})
			}
		}
	}
}

// Weak words, and keys and values of dead keys, are looked at too.
func TestP1303WeakWords(t *testing.T) {
	h := heap(t, 8)
	a, b := box(t, h, null), box(t, h, null)
	w := weak(t, h, a, null)
	with(h, w.N+1, 7, func() { refuses(t, "P1303", h, corrupt(w.N+1), w) })
	with(h, w.N+1, 7, func() { marks(t, "P1303", h, values{a}, values{a}, nil, nil) })
	for _, x := range guards(t, h, a, b) {
		with(h, x.own.N+1, 7, func() { refuses(t, "P1303", h, corrupt(x.own.N+1), x.root) })
		with(h, x.own.N+2, 7, func() { refuses(t, "P1303", h, corrupt(x.own.N+2), x.root) })
		with(h, x.own.N+2, 7, func() { refuses(t, "P1303", h, corrupt(x.own.N+2), x.root, a) })
		// What a dead key or its value refers to is not.
		with(h, a.N+1, 7, func() { marks(t, "P1303", h, values{x.root}, x.whole, values{x.own}, nil) })
		with(h, b.N+1, 7, func() { marks(t, "P1303", h, values{x.root}, x.whole, values{x.own}, nil) })
		with(h, b.N+1, 7, func() { refuses(t, "P1303", h, corrupt(b.N+1), x.root, a) })
	}
}

// Of several wrong words the least is told: a header, a link, or a word, whichever it is.
func TestP1303TheLeast(t *testing.T) {
	h, all := zoo(t)
	roots := all[1:12]
	var wrong []int
	for b := range h.All() {
		wrong = append(wrong, b.At)
		for i := 1; i < b.Size && b.At != all[12].N; i++ {
			if role(b.Kind, i) != 1 && role(b.Kind, i) != 8 && b.Serial != 1 { // what leads to the entry stays right
				wrong = append(wrong, b.At+i)
			}
		}
	}
	d := h.Dump()
	for _, at := range d.Heads {
		if at >= 0 {
			wrong = append(wrong, at)
		}
	}
	slices.Sort(wrong)
	for i, a := range wrong {
		for _, b := range wrong[i:] {
			with(h, b, 7, func() { with(h, a, 7, func() { refuses(t, "P1303", h, corrupt(a), roots...) }) })
		}
	}
	for _, at := range slices.Backward(wrong) {
		h.Poke(at, 7)
		refuses(t, "P1303", h, corrupt(at), roots...)
	}
}

// The lists rise, whatever the order is in which things are met.
func TestP1304ListsRise(t *testing.T) {
	h := heap(t, 60)
	k := box(t, h, null)
	var live, dead, weaks values
	m := thing(t, h, 10, 0, 0)
	all := thing(t, h, 3, 600, 0)
	for i := range 150 {
		e, w := eph(t, h, k, null), weak(t, h, k, null)
		put(t, h, m, box(t, h, null), null)
		set(t, h, all, 600-2*i, e)
		set(t, h, all, 1+2*i, w)
		live, dead, weaks = append(live, e, w), append(dead, e), append(weaks, w)
	}
	for b := range h.All() {
		own, _ := h.Block(m.N)
		if b.Kind == 13 && b.Tag == own.Serial {
			live, dead = append(live, ref(b.At)), append(dead, ref(b.At))
		}
	}
	live = append(live, m, spineOf(h, m), all)
	marks(t, "P1304", h, values{m, all}, live, dead, weaks)
	marks(t, "P1304", h, values{all, m}, live, dead, weaks)
	var entries values
	for _, v := range dead {
		if b, _ := h.Block(v.N); b.Kind == 13 {
			entries = append(entries, v)
		}
	}
	marks(t, "P1304", h, values{m, all, k}, append(live, k), entries, nil)
}

// Weak pairs with cars that are no references, or refer to what is reached, stand in no list.
func TestP1304Weak(t *testing.T) {
	h := heap(t, 8)
	a := box(t, h, null)
	for _, v := range []api.Value{fixnum(a.N), fixnum(0), null, void, {Kind: 3, N: 4}, char(a.N)} {
		w := weak(t, h, v, null)
		marks(t, "P1304", h, values{w}, values{w}, nil, nil)
	}
	w := weak(t, h, null, null)
	set(t, h, w, 1, w)
	marks(t, "P1304: its own car", h, values{w}, values{w}, nil, nil)
	w = weak(t, h, a, a)
	marks(t, "P1304: car and cdr", h, values{w}, values{w, a}, nil, nil)
	x := weak(t, h, a, null)
	y := weak(t, h, x, x)
	marks(t, "P1304", h, values{y}, values{x, y}, nil, values{x})
	z := weak(t, h, x, null)
	marks(t, "P1304: out of sight", h, values{z}, values{z}, nil, values{z})
	e := eph(t, h, a, null)
	set(t, h, x, 1, e)
	marks(t, "P1304", h, values{x, e}, values{x, e}, values{e}, nil)
}
