package gc

import (
	"slices"
	"testing"

	"hearth/api"
	"hearth/table"
)

func TestP1501ToP1503ChapterExamples(t *testing.T) {
	h := heap(t, 4)
	collects(t, "P1501", h, api.Report{})
	refuses(t, "P1501", h, api.Fault{Err: 33}, ref(0))
	list := null
	for range 3 {
		list = thing(t, h, 1, 0, 0, null, list)
	}
	lone := thing(t, h, 1, 0, 0)
	collects(t, "P1501", h, api.Report{Kept: 3, Freed: 1}, list)
	if _, ok := h.Block(lone.N); ok {
		t.Errorf("P1501: the pair that nothing refers to is there")
	}
	h = heap(t, 4)
	a, b := box(t, h, null), box(t, h, null)
	set(t, h, a, 1, b)
	set(t, h, b, 1, a)
	collects(t, "P1501", h, api.Report{Freed: 2})
	for _, roots := range []values{nil, {ref(0)}} {
		h = heap(t, 4)
		a, b = thing(t, h, 1, 0, 0), thing(t, h, 1, 0, 0)
		for _, at := range []int{a.N, b.N} {
			with(h, at, 12345, func() { refuses(t, "P1501", h, corrupt(at), roots...) })
		}
		h.Poke(a.N, 12345)
		h.Poke(b.N, 12345)
		refuses(t, "P1501", h, corrupt(min(a.N, b.N)), roots...)
	}
}

// zoo is a heap in which the frame reaches an object of each kind.
func zoo(t *testing.T) (h *table.Heap, frame api.Value) {
	t.Helper()
	h = heap(t, 8)
	text, _ := h.MakeText([]byte("hearth!?!"))
	key := box(t, h, text)
	flo := thing(t, h, 5, 0, 0)
	closure := thing(t, h, 6, 1, 5, flo)
	m := thing(t, h, 10, 0, 0)
	put(t, h, m, key, thing(t, h, 2, 0, 0))
	w := weak(t, h, key, null)
	e := eph(t, h, key, thing(t, h, 1, 0, 0, m, null))
	cont := thing(t, h, 7, 0, 0, thing(t, h, 11, 1, 2, null, null))
	frame = thing(t, h, 11, 3, 5, null, closure)
	set(t, h, frame, 5, thing(t, h, 3, 2, 0, cont, w))
	set(t, h, frame, 6, e)
	set(t, h, frame, 7, key)
	return h, frame
}

func TestP1501Roots(t *testing.T) {
	h, frame := zoo(t)
	for _, v := range append(strangers(), ref(frame.N+1), ref(h.Words()), ref(h.Words()-2)) {
		refuses(t, "P1501", h, api.Fault{Err: 33}, v)
		refuses(t, "P1501", h, api.Fault{Err: 33}, frame, v)
		refuses(t, "P1501", h, api.Fault{Err: 33}, v, frame)
		with(h, frame.N, 7, func() { refuses(t, "P1501: roots first", h, api.Fault{Err: 33}, frame, v) })
	}
	for b := range h.All() {
		if b.Kind > 11 {
			refuses(t, "P1501", h, api.Fault{Err: 33}, ref(b.At))
		}
	}
	gone := box(t, h, null)
	collects(t, "P1501", h, api.Report{Kept: 13, Freed: 1}, frame, fixnum(1<<60-1), null, char(0x10FFFF), frame)
	refuses(t, "P1501: an object that is gone", h, api.Fault{Err: 33}, gone)
}

// One wrong word, of a header, a link or a field, and nothing has changed.
func TestP1501WrongWords(t *testing.T) {
	h, frame := zoo(t)
	lost := thing(t, h, 1, 0, 0)
	told := 0
	for at := range h.Words() {
		for _, w := range []int{7, 6, 5, 1<<20 + 1, frame.N*8 + 9, -5, least + 1} {
			with(h, at, w, func() {
				if d, r, fault := plainCollect(h.Dump(), values{frame}); fault.Err != 0 && (r != api.Report{} || !sameDump(d, h.Dump()) || fault != corrupt(at)) {
					t.Fatalf("the plain collection of %d at %d: %v, %v", w, at, r, fault)
				} else if fault.Err != 0 {
					refuses(t, "P1501", h, fault, frame)
					told++
				}
			})
		}
	}
	if told < 500 {
		t.Errorf("%d wrong words were told", told)
	}
	with(h, lost.N+1, 7, func() {
		refuses(t, "P1501", h, corrupt(lost.N+1), frame, lost)
		collects(t, "P1501: what is not reached", h, api.Report{Kept: 13, Freed: 1}, frame)
	})
}

// Of two wrong words the lesser is told.
func TestP1501TheLeast(t *testing.T) {
	h, frame := zoo(t)
	var list []int
	for b := range h.All() {
		list = append(list, b.At)
	}
	for _, at := range h.Dump().Heads {
		if at >= 0 {
			list = append(list, at)
		}
	}
	for i, a := range list {
		for _, b := range list[i:] {
			with(h, b, 7, func() { with(h, a, 7, func() { refuses(t, "P1501", h, corrupt(min(a, b)), frame) }) })
		}
	}
	collects(t, "P1501", h, api.Report{Kept: 13}, frame)
}

// What is weak lets go of what nothing else holds.
func TestP1502WeakThings(t *testing.T) {
	h := heap(t, 8)
	a := box(t, h, null)
	w := weak(t, h, a, fixnum(7))
	e := eph(t, h, a, thing(t, h, 2, 0, 0, a))
	free := eph(t, h, fixnum(1), thing(t, h, 2, 0, 0))
	collects(t, "P1502", h, api.Report{Kept: 6}, w, e, free, a)
	collects(t, "P1502", h, api.Report{Kept: 4, Freed: 2, Broken: 1, Cleared: 1}, w, e, free)
	for i, want := range []api.Value{broken, fixnum(7)} {
		if v, fault := h.Get(w, 1+i); v != want || fault.Err != 0 {
			t.Errorf("P1502: the weak pair's field %d is %v, %v, want %v", i, v, fault, want)
		}
		if v, fault := h.Get(e, 1+i); v != broken || fault.Err != 0 {
			t.Errorf("P1502: the ephemeron's field %d is %v, %v", i, v, fault)
		}
	}
	collects(t, "P1502", h, api.Report{Freed: 4})
}

// Ephemerons and tables, each of whose keys only the others' values refer to, let go of all of them; with one key held they hold on to all.
func TestP1502Rings(t *testing.T) {
	for _, held := range []int{-1, 0, 1, 2, 3} {
		h := heap(t, 8)
		var keys, list values
		for range 4 {
			keys = append(keys, thing(t, h, 2, 0, 0))
		}
		for i, k := range keys {
			next := keys[(i+1)%4]
			if i%2 == 0 {
				list = append(list, eph(t, h, k, next))
				continue
			}
			m := thing(t, h, 10, 0, 0)
			put(t, h, m, k, next)
			list = append(list, m)
		}
		want := api.Report{Kept: 4, Freed: 4, Cleared: 2, Pruned: 2}
		roots := list
		if held >= 0 {
			want = api.Report{Kept: 8}
			roots = append(slices.Clone(list), keys[held])
		}
		collects(t, "P1502", h, want, roots...)
	}
}

// The values of a table keep their keys from going only as long as the table itself lets them.
func TestP1502Tables(t *testing.T) {
	h := heap(t, 40)
	m := thing(t, h, 10, 0, 0)
	var keys values
	for i := range 40 {
		keys = append(keys, box(t, h, fixnum(i)))
		put(t, h, m, keys[i], keys[i])
		put(t, h, m, fixnum(i), char(i))
	}
	set(t, h, keys[7], 1, keys[8])
	put(t, h, m, fixnum(3), keys[9])
	collects(t, "P1502", h, api.Report{Kept: 41}, append(slices.Clone(keys), m)...)
	collects(t, "P1502", h, api.Report{Kept: 4, Freed: 37, Pruned: 37}, m, keys[7])
	if n, fault := h.TableCount(m); n != 43 || fault.Err != 0 {
		t.Errorf("P1502: the table has %d entries, %v", n, fault)
	}
	for _, k := range keys[7:10] {
		if v, ok, fault := h.TableGet(m, k); v != k || !ok || fault.Err != 0 {
			t.Errorf("P1502: the key %v has %v, %v, %v", k, v, ok, fault)
		}
	}
	for i := range 40 {
		if _, ok, fault := h.TableGet(m, fixnum(i)); !ok || fault.Err != 0 {
			t.Errorf("P1502: the key %d is there: %v, %v", i, ok, fault)
		}
	}
	collects(t, "P1502", h, api.Report{Kept: 2, Freed: 2, Pruned: 2}, m)
	collects(t, "P1502", h, api.Report{Freed: 2})
	if len(h.Blocks()) != 0 {
		t.Errorf("P1503: %v are left", h.Blocks())
	}
}

// Old spines, entries that were deleted, and those that belong to nothing go; what a table leads to stays.
func TestP1503SpinesAndEntries(t *testing.T) {
	h := heap(t, 60)
	m, other := thing(t, h, 10, 0, 0), thing(t, h, 10, 0, 0)
	for i := range 100 {
		put(t, h, m, fixnum(i), null)
		put(t, h, other, fixnum(i), null)
		if i%3 == 0 {
			h.TableDelete(m, fixnum(i))
		}
	}
	for range 5 {
		thing(t, h, 13, 0, 1)
		thing(t, h, 12, 4, 1)
	}
	before := len(bare(h.Dump()))
	collects(t, "P1503", h, api.Report{Kept: 2}, m, other)
	left := bare(h.Dump())
	if !slices.Equal(left, parts(h.Dump())) || len(left) != 2+66+100 || before <= len(left) {
		t.Errorf("P1503: %d objects have no serials, of %d: %v, want %v", len(left), before, left, parts(h.Dump()))
	}
	collects(t, "P1503", h, api.Report{Kept: 1, Freed: 1}, m)
	if left = bare(h.Dump()); !slices.Equal(left, parts(h.Dump())) || len(left) != 1+66 {
		t.Errorf("P1503: %v have no serials, want %v", left, parts(h.Dump()))
	}
	collects(t, "P1503", h, api.Report{Freed: 1})
	if left = bare(h.Dump()); len(left) != 0 {
		t.Errorf("P1503: %v have no serials", left)
	}
}

// Counts that were led astray are mended, and stay so.
func TestP1503Counts(t *testing.T) {
	for _, n := range []int{least, -1, 0, 3, greatest} {
		h := heap(t, 8)
		m, empty := thing(t, h, 10, 0, 0), thing(t, h, 10, 0, 0)
		put(t, h, m, fixnum(1), null)
		put(t, h, m, box(t, h, null), null)
		h.SetRaw(m, 1, n)
		h.SetRaw(empty, 1, n)
		collects(t, "P1503", h, api.Report{Kept: 2, Freed: 1, Pruned: 1}, m, empty)
		if word(h, m.N+1) != 1 || word(h, empty.N+1) != 0 {
			t.Errorf("P1503: the counts are %d, %d", word(h, m.N+1), word(h, empty.N+1))
		}
	}
}

// With a second collection of other roots there is more to do: nothing of the first one is kept.
func TestP1504NothingIsKept(t *testing.T) {
	h := heap(t, 8)
	a := box(t, h, null)
	w := weak(t, h, a, null)
	collects(t, "P1504", h, api.Report{Kept: 2}, w, a)
	collects(t, "P1504", h, api.Report{Kept: 1, Freed: 1, Broken: 1}, w)
	other := heap(t, 8)
	b := thing(t, other, 1, 0, 0)
	collects(t, "P1504: another heap", other, api.Report{Kept: 1}, b)
	collects(t, "P1504", h, api.Report{Freed: 1})
}
