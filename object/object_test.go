package object

import (
	"slices"
	"testing"

	"hearth/api"
	"hearth/space"
)

func TestP901New(t *testing.T) {
	for _, n := range []int{1, 2, 17, 4096} {
		h := made(t, n)
		if h.Space == nil || h.Words() != 64*n || len(h.Blocks()) != 0 || len(h.Dump().Pages) != n || h.Wrong() != -1 {
			t.Errorf("P901: New(%d) has %d words, the objects %v", n, h.Words(), h.Blocks())
		}
	}
}

func TestP901NewRefuses(t *testing.T) {
	for _, n := range append(wild(), 0, 4097) {
		s, want := space.New(n)
		if h, errno := New(n); s != nil || h != nil || errno != want || errno != 1 {
			t.Errorf("P901: New(%d) = %v, %d", n, h, errno)
		}
	}
}

func TestP901HeapsAreTheirOwn(t *testing.T) {
	a, b := made(t, 2), made(t, 2)
	text(t, a, "hi")
	if len(b.Blocks()) != 0 || slices.ContainsFunc(b.Dump().Words, func(w int) bool { return w != 0 }) {
		t.Errorf("P901: another heap has %v", b.Blocks())
	}
	if v := object(t, b, api.KindBox, 0, 0); v != ref(0) {
		t.Errorf("P901: the first object of another heap: %v", v)
	}
}

// The calls of chapter 8 are the heap's too, in turns with its own.
func TestP901AHeapIsItsSpace(t *testing.T) {
	h := made(t, 2)
	at, fault := h.Alloc(api.KindPair, 3, 5)
	if fault.Err != 0 || h.Write(at, 1, 40) != (api.Fault{}) {
		t.Fatalf("P901: Alloc: %v", fault)
	}
	if x, fault := h.Get(ref(at), 1); x != fixnum(5) || fault.Err != 0 {
		t.Errorf("P904: the car that Write wrote: %v, %v", x, fault)
	}
	if h.Set(ref(at), 2, null) != (api.Fault{}) {
		t.Errorf("P905: Set of an object that Alloc took")
	}
	if w, fault := h.Read(at, 2); w != nilWord || fault.Err != 0 {
		t.Errorf("P905: Read behind Set: %d, %v", w, fault)
	}
	if n, errno := h.Keep(nil); n != 1 || errno != 0 {
		t.Errorf("P901: Keep: %d, %d", n, errno)
	}
	if _, fault := h.Open(ref(at)); fault != no(30) {
		t.Errorf("P902: Open of what was freed: %v", fault)
	}
}

// shapes are kinds and parts of all sorts of objects but texts.
func shapes() [][2]int {
	return [][2]int{
		{1, 0}, {2, 0}, {3, 0}, {3, 1}, {3, 31}, {3, 32}, {3, 63}, {3, 64}, {3, 1023}, {5, 0}, {6, 0}, {6, 3}, {6, 64}, {7, 0}, {8, 0}, {9, 0}, {10, 0},
		{11, 0}, {11, 2}, {11, 27}, {11, 28}, {11, 128}, {12, 4}, {12, 8}, {12, 16}, {12, 32}, {12, 64}, {12, 128}, {12, 256}, {12, 512}, {13, 0},
	}
}

func TestP902Open(t *testing.T) {
	h := made(t, 100)
	for _, s := range shapes() {
		v := object(t, h, s[0], s[1], 9)
		b, fault := h.Open(v)
		want, _ := h.Block(v.N)
		if b != want || fault != (api.Fault{}) || b.At != v.N || b.Kind != s[0] || b.Size != sizeOf(s[0], s[1]) || b.Tag != 9 {
			t.Errorf("P902: Open of the kind %d with %d parts: %v, %v", s[0], s[1], b, fault)
		}
	}
	v := text(t, h, "hearth")
	if b, fault := h.Open(v); b.Kind != 4 || b.Size != 3 || b.Tag != 0 || fault.Err != 0 {
		t.Errorf("P902: Open of a text: %v, %v", b, fault)
	}
}

// refused asks all calls on an object, and tells a fault, if one does not answer so, or has changed anything.
func refused(t *testing.T, h *Heap, v api.Value, want api.Fault) {
	t.Helper()
	unchanged(t, "a call that is refused", h, func() {
		if b, fault := h.Open(v); b != (api.Block{}) || fault != want {
			t.Errorf("P902: Open(%v) = %v, %v, want %v", v, b, fault, want)
		}
		if s, fault := h.Text(v); len(s) != 0 || fault != want {
			t.Errorf("P907: Text(%v) = %v, %v, want %v", v, s, fault, want)
		}
		for _, i := range []int{-1, 0, 1, 2, 3, 99} {
			if x, fault := h.Get(v, i); x != (api.Value{}) || fault != want {
				t.Errorf("P904: Get(%v, %d) = %v, %v, want %v", v, i, x, fault, want)
			}
			if x, fault := h.Raw(v, i); x != 0 || fault != want {
				t.Errorf("P906: Raw(%v, %d) = %v, %v, want %v", v, i, x, fault, want)
			}
			if fault := h.SetRaw(v, i, 7); fault != want {
				t.Errorf("P906: SetRaw(%v, %d, 7) = %v, want %v", v, i, fault, want)
			}
			for _, x := range []api.Value{void, {}, ref(0), ref(1)} {
				if fault := h.Set(v, i, x); fault != want {
					t.Errorf("P905: Set(%v, %d, %v) = %v, want %v", v, i, x, fault, want)
				}
			}
		}
	})
}

func TestP902NoObject(t *testing.T) {
	h := made(t, 3)
	a, big := object(t, h, api.KindPair, 0, 0), object(t, h, api.KindVector, 63, 0)
	for _, kind := range []int{0, 1, 3, 4, 5, -1, 1<<32 + 2, greatest, least} {
		refused(t, h, api.Value{Kind: kind, N: a.N}, no(30))
		refused(t, h, api.Value{Kind: kind, N: big.N}, no(30))
	}
	for _, at := range append(wild(), a.N+1, a.N+2, a.N+3, a.N+4, big.N+1, big.N+63, big.N+64, 191, 192) {
		refused(t, h, ref(at), no(30))
	}
	h.Keep([]int{big.N})
	refused(t, h, a, no(30))
}

func TestP902WrongHeader(t *testing.T) {
	h := made(t, 3)
	a, b, c := object(t, h, api.KindPair, 0, 0), text(t, h, "hi"), object(t, h, api.KindVector, 40, 0)
	for _, v := range []api.Value{a, b, c} {
		old, _ := h.Peek(v.N)
		for _, w := range []int{0, old + 1, old - 1, old ^ least, old ^ 1<<40, refWord(a), greatest, least} {
			h.Poke(v.N, w)
			refused(t, h, v, api.Fault{Err: 21, At: v.N})
		}
		h.Poke(v.N, old)
		if _, fault := h.Open(v); fault.Err != 0 {
			t.Errorf("P902: Open of an object whose header is right again: %v", fault)
		}
	}
}

func TestP903Words(t *testing.T) {
	h := made(t, 100)
	for k, s := range shapes() {
		v := object(t, h, s[0], s[1], 3)
		b, ok := h.Block(v.N)
		serial := k + 1
		if s[0] > 11 {
			serial = 0
		}
		if !ok || b != (api.Block{At: v.N, Kind: s[0], Size: sizeOf(s[0], s[1]), Serial: serial, Tag: 3}) {
			t.Fatalf("P903: Make(%d, %d, 3): %v", s[0], s[1], b)
		}
		for i := 1; i < b.Size; i++ {
			want := map[byte]int{'r': 0, 's': voidWord}[roleOf(b, i)]
			if role := roleOf(b, i); role != 'r' && role != 's' {
				want = nilWord
			}
			if w, _ := h.Peek(v.N + i); w != want {
				t.Errorf("P903: word %d of a new object of the kind %d with %d parts: %d, want %d", i, s[0], s[1], w, want)
			}
		}
	}
	if h.Wrong() != -1 {
		t.Errorf("P903: a wrong word at %d", h.Wrong())
	}
}

// What stood in a block is gone when it is taken again.
func TestP903WordsOfABlockThatWasUsed(t *testing.T) {
	h := made(t, 2)
	a, f := object(t, h, api.KindVector, 3, 0), object(t, h, api.KindVector, 6, 0)
	for i := range 8 {
		h.Poke(a.N+i%4, 77)
		h.Poke(f.N+i, 99)
	}
	h.Keep(nil)
	fresh := object(t, h, api.KindFrame, 2, 4)
	flo := object(t, h, api.KindTable, 0, 0)
	for i, want := range []int{nilWord, nilWord, 0, 0, voidWord, voidWord, 0} {
		if w, _ := h.Peek(fresh.N + 1 + i); w != want {
			t.Errorf("P903: word %d of a frame where another object was: %d", 1+i, w)
		}
	}
	for i, want := range []int{0, nilWord, 0} {
		if w, _ := h.Peek(flo.N + 1 + i); w != want {
			t.Errorf("P903: word %d of a table where another object was: %d", 1+i, w)
		}
	}
}

func TestP903Tags(t *testing.T) {
	h := made(t, 8)
	for _, tag := range append(wild(), 0, 7) {
		for _, kind := range []int{1, 6, 11, 13} {
			v := object(t, h, kind, 0, tag)
			if b, _ := h.Open(v); b.Tag != tag {
				t.Errorf("P903: Make(%d, 0, %d): %v", kind, tag, b)
			}
		}
		h.Keep(nil)
	}
}

func TestP903NoShape(t *testing.T) {
	wrong := [][2]int{{0, 0}, {14, 0}, {99, 0}, {1, 1}, {2, 1}, {3, 1024}, {3, -1}, {5, 1}, {6, 65}, {6, -1}, {7, 1}, {8, 1}, {9, 2}, {10, 1}, {11, 129}, {11, -1}, {12, 0}, {12, 1}, {12, 5}, {12, 12}, {12, 1024}, {13, 4}}
	for _, n := range []int{0, 1, 8, 9, 4096, 4097, -1} {
		wrong = append(wrong, [2]int{4, n})
	}
	for _, n := range wild() {
		wrong = append(wrong, [2]int{n, 0}, [2]int{3, n}, [2]int{1, n}, [2]int{11, n}, [2]int{12, n}, [2]int{4, n}, [2]int{n, n})
	}
	for _, full := range []bool{false, true} {
		h := made(t, 1)
		if full {
			object(t, h, api.KindVector, 40, 0)
		}
		unchanged(t, "Make of no object", h, func() {
			for _, s := range wrong {
				if v, fault := h.Make(s[0], s[1], 0); v != (api.Value{}) || fault != no(24) {
					t.Errorf("P903: Make(%d, %d, 0) = %v, %v", s[0], s[1], v, fault)
				}
			}
		})
	}
}

func TestP903FaultsOfAlloc(t *testing.T) {
	h := made(t, 2)
	object(t, h, api.KindPair, 0, 0)
	object(t, h, api.KindVector, 40, 0)
	makes := func(kind, n int, want api.Fault) {
		unchanged(t, "Make that fails", h, func() {
			if v, fault := h.Make(kind, n, 0); v != (api.Value{}) || fault != want {
				t.Errorf("P903: Make(%d, %d, 0) = %v, %v, want %v", kind, n, v, fault, want)
			}
		})
	}
	makes(api.KindBox, 0, no(20))
	makes(api.KindVector, 100, no(20))
	h.Poke(4, 0)
	makes(api.KindWeak, 0, api.Fault{Err: 21, At: 4})
	makes(api.KindEntry, 0, api.Fault{Err: 21, At: 4})
	makes(api.KindPair, 1, no(24))
	unchanged(t, "MakeText that fails", h, func() {
		if v, fault := h.MakeText([]byte("hi")); v != (api.Value{}) || fault != (api.Fault{Err: 21, At: 4}) {
			t.Errorf("P907: MakeText = %v, %v", v, fault)
		}
	})
	h.Poke(4, 8*8+4)
	if v := object(t, h, api.KindWeak, 0, 0); v != ref(4) {
		t.Errorf("P903: Make with the link right again: %v", v)
	}
}

func TestP904FieldsOfEachKind(t *testing.T) {
	h := made(t, 100)
	for _, s := range shapes() {
		v := object(t, h, s[0], s[1], 0)
		b, _ := h.Open(v)
		for _, i := range append(wild(), 0, 1, 2, 3, 4, 5, 6, b.Size-1, b.Size, b.Size+1) {
			want, wantFault := null, api.Fault{}
			switch roleOf(b, i) {
			case 's':
				want = void
			case 'r', '-':
				want, wantFault = api.Value{}, no(32)
			}
			if x, fault := h.Get(v, i); x != want || fault != wantFault {
				t.Errorf("P904: Get of word %d of the kind %d with %d parts: %v, %v", i, s[0], s[1], x, fault)
			}
			if fault := h.Set(v, i, null); fault != wantFault {
				t.Errorf("P905: Set of word %d of the kind %d with %d parts: %v", i, s[0], s[1], fault)
			}
			h.Set(v, i, want)
			wantFault = no(32)
			if roleOf(b, i) == 'r' {
				wantFault = api.Fault{}
			}
			if w, fault := h.Raw(v, i); w != 0 || fault != wantFault {
				t.Errorf("P906: Raw of word %d of the kind %d with %d parts: %d, %v", i, s[0], s[1], w, fault)
			}
			if fault := h.SetRaw(v, i, 0); fault != wantFault {
				t.Errorf("P906: SetRaw of word %d of the kind %d with %d parts: %v", i, s[0], s[1], fault)
			}
		}
	}
}

func TestP904Values(t *testing.T) {
	h := made(t, 2)
	a, b := object(t, h, api.KindPair, 0, 0), object(t, h, api.KindBox, 0, 0)
	values := []api.Value{
		fixnum(0), fixnum(1), fixnum(-1), fixnum(1<<60 - 1), fixnum(-1 << 60), a, b,
		null, {Kind: 3, N: 1}, {Kind: 3, N: 2}, void, {Kind: 3, N: 4}, {Kind: 3, N: 5},
		{Kind: 4, N: 0}, {Kind: 4, N: 65}, {Kind: 4, N: 0xD7FF}, {Kind: 4, N: 0xE000}, {Kind: 4, N: 0x10FFFF},
	}
	for _, x := range values {
		h.Poke(a.N+1, x.N*8+x.Kind-1)
		if got, fault := h.Get(a, 1); got != x || fault != (api.Fault{}) {
			t.Errorf("P904: Get of a word of %v: %v, %v", x, got, fault)
		}
		if fault := h.Set(a, 2, x); fault != (api.Fault{}) {
			t.Errorf("P905: Set of %v: %v", x, fault)
		}
		if w, _ := h.Peek(a.N + 2); w != x.N*8+x.Kind-1 {
			t.Errorf("P905: Set of %v writes %d", x, w)
		}
		if got, fault := h.Get(a, 2); got != x || fault != (api.Fault{}) {
			t.Errorf("P905: Get behind Set of %v: %v, %v", x, got, fault)
		}
	}
}

func TestP904WrongWords(t *testing.T) {
	h := made(t, 3)
	big := object(t, h, api.KindVector, 60, 0)
	a, e := object(t, h, api.KindPair, 0, 0), object(t, h, api.KindEntry, 0, 1)
	for _, i := range []int{1, 30, 60} {
		for _, w := range []int{4, 5, 6, 7, -4, 6*8 + 2, -8 + 2, 0xD800*8 + 3, 0x110000*8 + 3, -8 + 3, -8 + 1, refWord(e), (a.N+1)*8 + 1, 1<<20 + 1, greatest, least + 1, least + 2} {
			h.Poke(big.N+i, w)
			unchanged(t, "Get of a wrong word", h, func() {
				if x, fault := h.Get(big, i); x != (api.Value{}) || fault != (api.Fault{Err: 21, At: big.N + i}) {
					t.Errorf("P904: Get of the wrong word %d at %d: %v, %v", w, i, x, fault)
				}
			})
			if x, fault := h.Get(big, i-1); i > 1 && (x != void || fault.Err != 0) {
				t.Errorf("P904: Get beside a wrong word: %v, %v", x, fault)
			}
			if fault := h.Set(big, i, fixnum(i)); fault != (api.Fault{}) {
				t.Errorf("P905: Set over a wrong word: %v", fault)
			}
			if x, fault := h.Get(big, i); x != fixnum(i) || fault.Err != 0 {
				t.Errorf("P905: Get behind Set over a wrong word: %v, %v", x, fault)
			}
			h.Set(big, i, void)
		}
	}
}

// An object that is freed leaves wrong words where it was referred to, until something else begins at its place.
func TestP904WhatIsFreed(t *testing.T) {
	h := made(t, 2)
	a, b := object(t, h, api.KindPair, 0, 0), object(t, h, api.KindWeak, 0, 0)
	h.Set(a, 1, b)
	h.Keep([]int{a.N})
	if x, fault := h.Get(a, 1); x != (api.Value{}) || fault != (api.Fault{Err: 21, At: a.N + 1}) {
		t.Errorf("P904: Get of a reference to what is freed: %v, %v", x, fault)
	}
	if fault := h.Set(a, 2, b); fault != no(33) {
		t.Errorf("P905: Set of a reference to what is freed: %v", fault)
	}
	if object(t, h, api.KindEntry, 0, 0) != b {
		t.Fatalf("P903: the free block is not the entry's")
	}
	if _, fault := h.Get(a, 1); fault != (api.Fault{Err: 21, At: a.N + 1}) {
		t.Errorf("P904: Get of a reference to an entry: %v", fault)
	}
	h.Keep([]int{a.N})
	object(t, h, api.KindPair, 0, 0)
	if x, fault := h.Get(a, 1); x != b || fault.Err != 0 {
		t.Errorf("P904: Get of a reference to a new object: %v, %v", x, fault)
	}
}

// The header of what is referred to is looked at when that is opened, not when the reference is read or written.
func TestP904ReferencesAreNotFollowed(t *testing.T) {
	h := made(t, 1)
	a, b := object(t, h, api.KindPair, 0, 0), object(t, h, api.KindPair, 0, 0)
	h.Poke(b.N, 0)
	if fault := h.Set(a, 1, b); fault != (api.Fault{}) {
		t.Errorf("P905: Set of a reference to an object with a wrong header: %v", fault)
	}
	if x, fault := h.Get(a, 1); x != b || fault != (api.Fault{}) {
		t.Errorf("P904: Get of a reference to an object with a wrong header: %v, %v", x, fault)
	}
}

func TestP905Refuses(t *testing.T) {
	h := made(t, 2)
	a, e, s, f := object(t, h, api.KindPair, 0, 0), object(t, h, api.KindEntry, 0, 0), object(t, h, api.KindSpine, 4, 0), object(t, h, api.KindFrame, 0, 0)
	for _, x := range append(strangers(), e, s, f, ref(a.N+1), ref(127), ref(128), ref(1<<60-1)) {
		unchanged(t, "Set that is refused", h, func() {
			if fault := h.Set(a, 1, x); fault != no(33) {
				t.Errorf("P905: Set(a, 1, %v) = %v", x, fault)
			}
			for _, i := range []int{0, 3, -1, 1 << 32} {
				if fault := h.Set(a, i, x); fault != no(32) {
					t.Errorf("P905: Set(a, %d, %v) = %v", i, x, fault)
				}
			}
		})
	}
}

func TestP905OneWordAlone(t *testing.T) {
	h := made(t, 2)
	v := object(t, h, api.KindVector, 40, 0)
	old := h.Dump()
	for i := 1; i <= 40; i++ {
		h.Set(v, i, fixnum(i))
		old.Words[v.N+i] = 8 * i
		if !sameDump(old, h.Dump()) {
			t.Fatalf("P905: Set of word %d has written more, or less", i)
		}
	}
}

func TestP906Raw(t *testing.T) {
	h := made(t, 4)
	table, frame, flo := object(t, h, api.KindTable, 0, 0), object(t, h, api.KindFrame, 3, 1), object(t, h, api.KindFlo, 0, 0)
	s := text(t, h, "twelve bytes")
	places := []struct {
		v api.Value
		i int
	}{{table, 1}, {frame, 3}, {frame, 4}, {flo, 1}, {s, 1}, {s, 2}, {s, 3}}
	old := h.Dump()
	for _, w := range append(wild(), 0, 1, 4, 5, 6, 7, 8) {
		for _, p := range places {
			if fault := h.SetRaw(p.v, p.i, w); fault != (api.Fault{}) {
				t.Errorf("P906: SetRaw(%v, %d, %d) = %v", p.v, p.i, w, fault)
			}
			old.Words[p.v.N+p.i] = w
			if got, fault := h.Raw(p.v, p.i); got != w || fault != (api.Fault{}) {
				t.Errorf("P906: Raw(%v, %d) = %d, %v, want %d", p.v, p.i, got, fault, w)
			}
			if !sameDump(old, h.Dump()) {
				t.Fatalf("P906: SetRaw(%v, %d, %d) has written more, or less", p.v, p.i, w)
			}
		}
	}
}

func TestP909LookingChangesNothing(t *testing.T) {
	h := made(t, 6)
	all := []api.Value{text(t, h, "bytes, and more of them")}
	for _, s := range [][2]int{{1, 0}, {3, 40}, {5, 0}, {10, 0}, {11, 4}, {12, 4}, {13, 0}} {
		all = append(all, object(t, h, s[0], s[1], 2))
	}
	h.Poke(all[1].N, 3)
	h.Poke(all[2].N+7, 7)
	unchanged(t, "looking", h, func() {
		for _, v := range all {
			h.Open(v)
			h.Text(v)
			for i := range 50 {
				h.Get(v, i)
				h.Raw(v, i)
				h.Right(v.N, i, voidWord)
				h.Right(v.N, i, refWord(v))
			}
		}
	})
}

// The chapter's examples, line by line.
func TestP902ToP908ChapterExamples(t *testing.T) {
	h := made(t, 1)
	a := object(t, h, api.KindPair, 0, 0)
	b := text(t, h, "hi")
	object(t, h, api.KindWeak, 0, 0)
	d := object(t, h, api.KindEntry, 0, 7)
	gets := func(v api.Value, i int, want api.Value, wantFault api.Fault) {
		t.Helper()
		if x, fault := h.Get(v, i); x != want || fault != wantFault {
			t.Errorf("Get(%v, %d) = %v, %v", v, i, x, fault)
		}
	}
	gets(a, 1, void, api.Fault{})
	gets(a, 3, api.Value{}, no(api.ErrField))
	gets(a, 0, api.Value{}, no(api.ErrField))
	gets(b, 1, api.Value{}, no(api.ErrField))
	if h.Set(a, 1, fixnum(5)) != (api.Fault{}) {
		t.Errorf("Set(a, 1, 5)")
	}
	gets(a, 1, fixnum(5), api.Fault{})
	if h.Set(a, 2, b) != (api.Fault{}) || h.Set(a, 2, d) != no(api.ErrValue) || h.Set(a, 2, ref(1)) != no(api.ErrValue) {
		t.Errorf("Set(a, 2, b), Set(a, 2, d), Set(a, 2, ref 1)")
	}
	if !h.Right(a.N, 1, 8) || h.Right(a.N, 0, 8) || !h.Right(b.N, 1, 6) || h.Right(d.N, 3, refWord(d)) {
		t.Errorf("Right")
	}
	right, _ := h.Peek(a.N)
	h.Poke(a.N, 0)
	gets(a, 1, api.Value{}, api.Fault{Err: api.ErrCorrupt, At: a.N})
	gets(a, 9, api.Value{}, api.Fault{Err: api.ErrCorrupt, At: a.N})
	if _, fault := h.Open(a); fault != (api.Fault{Err: api.ErrCorrupt, At: a.N}) {
		t.Errorf("Open(a) = %v", fault)
	}
	h.Poke(a.N, right)
	h.Poke(a.N+1, 1<<20+1)
	gets(a, 1, api.Value{}, api.Fault{Err: api.ErrCorrupt, At: a.N + 1})
	if h.Set(a, 1, null) != (api.Fault{}) {
		t.Errorf("Set(a, 1, nil)")
	}
	gets(a, 1, null, api.Fault{})
}
