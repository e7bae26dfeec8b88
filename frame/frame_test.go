package frame

import (
	"slices"
	"testing"

	"hearth/api"
	"hearth/table"
)

// The chapter's examples, one behind the other.
func TestExamples(t *testing.T) {
	each(t, func(t *testing.T, h Heap) {
		p, c := example()
		k := made(t, h, api.KindClosure, 0, 0)
		f, e := New(h, p, c, k, null(), list{fix(5)})
		answers(t, "New", e, ok)
		stands(t, "New", h, f, shape{null(), k, 0, 0, list{fix(5), void(), void(), void()}})
		refuses(t, "New", h, fail(api.ErrArg), func() (val, api.Fault) { return New(h, p, c, k, null(), nil) })
		refuses(t, "New", h, fail(api.ErrKind), func() (val, api.Fault) { return New(h, p, c, k, k, list{fix(5)}) })
		refuses(t, "New", h, fail(api.ErrKind), func() (val, api.Fault) { return New(h, p, c, f, null(), list{fix(5)}) })
		views := func(pc, depth int) View {
			v, e := Open(h, p, c, f)
			if e != ok || v != (View{f, 0, 2, pc, depth}) {
				t.Errorf("Open: %v, %v", v, e)
			}
			return v
		}
		answers(t, "Finish", Finish(h, views(0, 0), 0, list{fix(5)}, 1), ok)
		stands(t, "Finish", h, f, shape{null(), k, 1, 0, list{fix(5), void(), fix(5), void()}})
		if x, e := Operands(h, views(1, 1), 1); !slices.Equal(x, list{fix(5)}) || e != ok {
			t.Errorf("Operands: %v, %v", x, e)
		}
		answers(t, "Finish", Finish(h, views(1, 1), 0, list{k}, 2), ok)
		answers(t, "Wait", Wait(h, views(2, 2), 2), ok)
		stands(t, "Wait", h, f, shape{null(), k, 2, 0, list{fix(5), void(), void(), void()}})
		needs(t, "Needs", h, p, c, f)
		returns(t, "Return", h, p, c, f, fix(9), true)
		stands(t, "Return", h, f, shape{null(), k, 3, 0, list{fix(5), void(), fix(9), void()}})
		refuses(t, "Needs", h, fail(api.ErrCall), func() ([]int, api.Fault) { return Needs(h, p, c, f) })
		h.SetRaw(f, 3, 2)
		answers(t, "Share", Share(h, f), ok)
		needs(t, "Needs", h, p, c, f, 9)
		for _, n := range []int{9, 8} {
			g := returns(t, "Return", h, p, c, f, fix(n), false)
			stands(t, "Return", h, g, shape{null(), k, 3, 0, list{fix(5), void(), fix(n), void()}})
			stands(t, "Return", h, f, shape{null(), k, 2, 1, list{fix(5), void(), fix(9), void()}})
		}
		h.SetRaw(f, 3, 7)
		refuses(t, "Open", h, wrongAt(placed(t, h, f)+3), func() (View, api.Fault) { return Open(h, p, c, f) })
	})
}

// needs tells a fault, if a return into f needs other objects.
func needs(t testing.TB, promise string, h Heap, p api.Program, c api.Checked, f val, want ...int) {
	t.Helper()
	idle(t, promise, h, func() {
		if have, e := Needs(h, p, c, f); !slices.Equal(have, want) || e != ok {
			t.Errorf("%s: needs %v, %v, want %v", promise, have, e, want)
		}
	})
}

// returns returns into f, and tells a fault, if the run does not go on in f itself, or in another frame.
func returns(t testing.TB, promise string, h Heap, p api.Program, c api.Checked, f, answer val, itself bool) val {
	t.Helper()
	g, e := Return(h, p, c, f, answer)
	if e != ok || (g == f) != itself {
		t.Fatalf("%s: Return(%v, %v) = %v, %v", promise, f, answer, g, e)
	}
	return g
}

// held is an object of each kind that a program can hold.
func held(t testing.TB, h Heap) list {
	var out list
	for kind := api.KindPair; kind <= api.KindTable; kind++ {
		if kind != api.KindText {
			out = append(out, made(t, h, kind, 0, 0))
		}
	}
	if h, ok := h.(interface {
		MakeText(b []byte) (val, api.Fault)
	}); ok {
		v, _ := h.MakeText([]byte("text"))
		out = append(out, v)
	}
	return out
}

// putter is a way on which a value is put somewhere: it tells the fault, and where the value stands then.
type putter struct {
	name string
	put  func(x val) (val, int, api.Fault)
}

// putters are all ways on which values are put. Each time there is a new frame.
func putters(t testing.TB, h Heap) []putter {
	p, c := example()
	k := made(t, h, api.KindClosure, 0, 0)
	at := func(pc, shared int) val {
		f, e := New(h, p, c, k, null(), list{fix(5)})
		answers(t, "New", e, ok)
		h.SetRaw(f, 3, pc)
		h.SetRaw(f, 4, shared)
		return f
	}
	result := func(shared int) func(val) (val, int, api.Fault) {
		f := at(2, shared)
		return func(x val) (val, int, api.Fault) {
			h.SetRaw(f, 3, 2)
			g, e := Return(h, p, c, f, x)
			return g, 7, e
		}
	}
	f := at(0, 0)
	v, e := Open(h, p, c, f)
	answers(t, "Open", e, ok)
	return []putter{
		{"New", func(x val) (val, int, api.Fault) {
			f, e := New(h, p, c, k, null(), list{x})
			return f, 5, e
		}},
		{"Finish", func(x val) (val, int, api.Fault) { return f, 7, Finish(h, v, 0, list{x}, 0) }},
		{"Return", result(0)},
		{"Return into a copy", result(1)},
	}
}

func TestP2001Values(t *testing.T) {
	each(t, func(t *testing.T, h Heap) {
		right := append(held(t, h), fix(0), fix(-1), fix(1<<60-1), fix(-1<<60), imm(0), imm(1), imm(2), imm(3), imm(4), imm(5),
			char(0), char(65), char(0xD7FF), char(0xE000), char(0x10FFFF))
		for _, way := range putters(t, h) {
			for _, x := range right {
				f, i, e := way.put(x)
				answers(t, "P2001: "+way.name, e, ok)
				if y, e := h.Get(f, i); y != x || e != ok {
					t.Errorf("P2001: %s of %v: %v, %v", way.name, x, y, e)
				}
			}
		}
	})
}

func TestP2001NoValues(t *testing.T) {
	each(t, func(t *testing.T, h Heap) {
		ways := putters(t, h)
		box := made(t, h, api.KindBox, 0, 0)
		frame := made(t, h, api.KindFrame, 2, 0)
		wrong := list{{}, fix(1 << 60), fix(-1<<60 - 1), fix(most), fix(least), imm(-1), imm(6), imm(most), imm(least),
			char(-1), char(0xD800), char(0xDFFF), char(0x110000), char(1<<32 + 65), {Kind: 5}, {Kind: -1, N: 1}, {Kind: most, N: 1},
			ref(-1), ref(1 << 59), ref(1 << 60), ref(most), ref(least), frame}
		if _, graph := whole(h).(api.Graph); !graph {
			wrong = append(wrong, made(t, h, api.KindSpine, 4, 0), made(t, h, api.KindEntry, 0, 0), ref(box.N+1), ref(box.N+2))
		}
		for _, way := range ways {
			for _, x := range wrong {
				refuses(t, "P2001: "+way.name, h, fail(api.ErrValue), func() (struct{}, api.Fault) {
					_, _, e := way.put(x)
					return alone(e)
				})
			}
		}
	})
}

// A wrong header is told where it stands, though any other fault of opening is not.
func TestP2001Corrupt(t *testing.T) {
	h := arena(t, 40)
	ways := putters(t, h)
	for _, x := range append(held(t, h), made(t, h, api.KindFrame, 2, 0)) {
		old, _ := h.Peek(x.N)
		h.Poke(x.N, old+8)
		for _, way := range ways {
			refuses(t, "P2001: "+way.name, h, wrongAt(x.N), func() (struct{}, api.Fault) {
				_, _, e := way.put(x)
				return alone(e)
			})
		}
		h.Poke(x.N, old)
	}
}

// The first value that is wrong is told, whatever is wrong behind it.
func TestP2001FirstOne(t *testing.T) {
	h := arena(t, 40)
	p, c := one(api.Func{Params: 4, Locals: 4, Code: []api.Ins{op(api.OpReturn)}}, 8, 0)
	k := made(t, h, api.KindClosure, 0, 0)
	f, e := New(h, p, c, k, null(), many(fix(1), 4))
	answers(t, "P2001", e, ok)
	v, e := Open(h, p, c, f)
	answers(t, "P2001", e, ok)
	box, pair := made(t, h, api.KindBox, 0, 0), made(t, h, api.KindPair, 0, 0)
	h.Poke(box.N, 0)
	h.Poke(pair.N, 0)
	for _, x := range []struct {
		put  list
		want api.Fault
	}{
		{list{fix(1), fix(2), fix(3), box}, wrongAt(box.N)},
		{list{fix(1), pair, ref(-1), box}, wrongAt(pair.N)},
		{list{fix(1), box, pair, f}, wrongAt(box.N)},
		{list{fix(1), f, box, pair}, fail(api.ErrValue)},
		{list{imm(9), pair, box, f}, fail(api.ErrValue)},
	} {
		refuses(t, "P2001", h, x.want, func() (val, api.Fault) { return New(h, p, c, k, null(), x.put) })
		refuses(t, "P2001", h, x.want, func() (struct{}, api.Fault) { return alone(Finish(h, v, 0, x.put, 0)) })
	}
}

// What is no reference is not opened.
func TestP2001OpensReferencesAlone(t *testing.T) {
	each(t, func(t *testing.T, h Heap) {
		r := record(h)
		box := made(t, h, api.KindBox, 0, 0)
		for _, way := range putters(t, r) {
			for _, x := range []val{fix(7), imm(2), char(9), {}, imm(9), box} {
				r.calls = nil
				way.put(x)
				opened := slices.Contains(r.calls, called{name: "Open", v: x})
				if opened != (x == box) {
					t.Errorf("P2001: %s of %v: opened: %v", way.name, x, opened)
				}
			}
		}
	})
}

func TestP2002Frames(t *testing.T) {
	each(t, func(t *testing.T, h Heap) {
		for _, x := range []struct{ params, slots, tag int }{
			{0, 0, 0}, {0, 1, 0}, {1, 1, 1}, {0, 5, 2}, {3, 3, 2}, {3, 9, 0}, {8, 8, 1}, {8, 128, 1}, {0, 128, 0}, {128, 128, 2},
		} {
			var p api.Program
			var c api.Checked
			for range 3 { // what other functions have is asked by nobody
				p.Funcs = append(p.Funcs, api.Func{Params: -9, Locals: 99})
				c.Slots, c.Depths = append(c.Slots, -3), append(c.Depths, []int{1, 2, 3})
			}
			p.Funcs[x.tag] = api.Func{Params: x.params, Locals: -1, Captures: -1}
			c.Slots[x.tag], c.Depths[x.tag] = x.slots, nil
			k := made(t, h, api.KindClosure, 2, x.tag)
			link := made(t, h, api.KindFrame, 3, 77)
			var args list
			for i := range x.params {
				args = append(args, fix(100+i))
			}
			for _, to := range []val{null(), link} {
				f, e := New(h, p, c, k, to, args)
				answers(t, "P2002", e, ok)
				stands(t, "P2002", h, f, shape{to, k, 0, 0, append(slices.Clone(args), many(void(), x.slots-x.params)...)})
				if b, _ := h.Open(f); b.Kind != api.KindFrame || b.Tag != x.tag || b.Size != 5+x.slots {
					t.Errorf("P2002: %v", b)
				}
			}
		}
	})
}

// A frame that is made stands where one stood that was freed; nothing of that one is left in it.
func TestP2002NothingIsLeft(t *testing.T) {
	h := arena(t, 4)
	p, c := one(api.Func{Params: 1}, 6)
	k := made(t, h, api.KindClosure, 0, 0)
	f, _ := New(h, p, c, k, null(), list{fix(1)})
	for i := range 6 {
		h.Set(f, 5+i, fix(99))
	}
	h.SetRaw(f, 3, 99)
	Share(h, f)
	h.Set(f, 1, f)
	h.Keep([]int{k.N})
	g, e := New(h, p, c, k, null(), list{fix(2)})
	answers(t, "P2002", e, ok)
	stands(t, "P2002", h, g, shape{null(), k, 0, 0, append(list{fix(2)}, many(void(), 5)...)})
	if g != f {
		t.Errorf("P2002: the frame stands at %v, not at %v", g, f)
	}
}

// making is what New is given, and other objects of the heap, that it could be given.
type making struct {
	h             *table.Heap
	p             api.Program
	c             api.Checked
	closure, link val
	args          list

	vector, frame, cont  val
	below, above, beyond val // closures of functions that there are not
}

// rung is something that is wrong, and the error of it.
type rung struct {
	name string
	turn func(m *making)
	want api.Errno
}

// rungs are things that are wrong for New, in the order in which they are looked for.
func rungs() []rung {
	return []rung{
		{"no object", func(m *making) { m.closure = ref(3) }, api.ErrRef},
		{"no reference", func(m *making) { m.closure = fix(0) }, api.ErrRef},
		{"a wrong header", func(m *making) { m.h.Poke(m.closure.N, 0) }, api.ErrCorrupt},
		{"no closure", func(m *making) { m.closure = m.vector }, api.ErrKind},
		{"no closure but a frame", func(m *making) { m.closure = m.frame }, api.ErrKind},
		{"a function below 0", func(m *making) { m.closure = m.below }, api.ErrArg},
		{"no such function", func(m *making) { m.closure = m.above }, api.ErrArg},
		{"a function far beyond", func(m *making) { m.closure = m.beyond }, api.ErrArg},
		{"too few functions", func(m *making) { m.p.Funcs = m.p.Funcs[:1] }, api.ErrArg},
		{"Slots of too few", func(m *making) { m.c.Slots = m.c.Slots[:1] }, api.ErrArg},
		{"Depths of too few", func(m *making) { m.c.Depths = m.c.Depths[:1] }, api.ErrArg},
		{"a depth too few", func(m *making) { m.c.Depths[1] = []int{0} }, api.ErrArg},
		{"a depth too many", func(m *making) { m.c.Depths[1] = []int{0, 1, 2} }, api.ErrArg},
		{"no arguments", func(m *making) { m.args = m.args[:0] }, api.ErrArg},
		{"an argument too few", func(m *making) { m.args = m.args[:1] }, api.ErrArg},
		{"an argument too many", func(m *making) { m.args = many(fix(1), 3) }, api.ErrArg},
		{"fewer slots than arguments", func(m *making) { m.c.Slots[1] = 1 }, api.ErrArg},
		{"slots below 0", func(m *making) { m.c.Slots[1] = -1 }, api.ErrArg},
		{"far too few slots", func(m *making) { m.c.Slots[1] = least }, api.ErrArg},
		{"a slot too many", func(m *making) { m.c.Slots[1] = 129 }, api.ErrArg},
		{"far too many slots", func(m *making) { m.c.Slots[1] = most }, api.ErrArg},
		{"a link to nothing", func(m *making) { m.link = ref(3) }, api.ErrRef},
		{"a link that is another immediate", func(m *making) { m.link = imm(1) }, api.ErrRef},
		{"a link that is no value", func(m *making) { m.link = val{} }, api.ErrRef},
		{"a link that is a fixnum", func(m *making) { m.link = fix(0) }, api.ErrRef},
		{"a wrong header of the link", func(m *making) { m.h.Poke(m.link.N, 0) }, api.ErrCorrupt},
		{"a link to a closure", func(m *making) { m.link = m.above }, api.ErrKind},
		{"a link to a continuation", func(m *making) { m.link = m.cont }, api.ErrKind},
		{"an argument that is none", func(m *making) { m.args[0] = imm(6) }, api.ErrValue},
		{"a wrong header of an argument", func(m *making) { m.h.Poke(m.args[0].N, 0) }, api.ErrCorrupt},
		{"another argument that is none", func(m *making) { m.args[1] = m.frame }, api.ErrValue},
		{"no room", func(m *making) { fill(m.h) }, api.ErrFull},
	}
}

// fill takes what room there is for frames of 9 slots.
func fill(h Heap) {
	for e := ok; e == ok; {
		_, e = h.Make(api.KindFrame, 9, 0)
	}
}

// begun is a call of New in which nothing is wrong.
func begun(t testing.TB) *making {
	h := arena(t, 12)
	code := []api.Ins{op(api.OpFix), op(api.OpReturn)}
	m := &making{
		h:       h,
		p:       api.Program{Funcs: []api.Func{{Code: code}, {Params: 2, Locals: 2, Code: code}}},
		c:       api.Checked{Slots: []int{1, 9}, Depths: [][]int{{0, 1}, {0, 1}}},
		closure: made(t, h, api.KindClosure, 0, 1),
		link:    made(t, h, api.KindFrame, 2, 0),
		args:    list{made(t, h, api.KindPair, 0, 0), fix(1)},
		vector:  made(t, h, api.KindVector, 2, 1),
		frame:   made(t, h, api.KindFrame, 3, 1),
		cont:    made(t, h, api.KindCont, 0, 0),
		below:   made(t, h, api.KindClosure, 0, -1),
		above:   made(t, h, api.KindClosure, 0, 2),
		beyond:  made(t, h, api.KindClosure, 0, most),
	}
	h.Set(m.cont, 1, m.frame)
	return m
}

func (m *making) make() (val, api.Fault) {
	return New(m.h, m.p, m.c, m.closure, m.link, m.args)
}

// wrongHeader is the first wrong header of the closure, the link and the first argument.
func (m *making) wrongHeader() api.Fault {
	for _, v := range []val{m.closure, m.link, m.args[:1][0]} {
		if f := m.h.Check(v.N); v.Kind == api.ValRef && f.Err == api.ErrCorrupt {
			return f
		}
	}
	return ok
}

// What is wrong first is told, whatever else is wrong.
func TestP2002Errors(t *testing.T) {
	if _, e := begun(t).make(); e != ok {
		t.Fatalf("P2002: nothing is wrong: %v", e)
	}
	all := rungs()
	for i, first := range all {
		for _, then := range all[i:] {
			m := begun(t)
			then.turn(m)
			first.turn(m)
			want := fail(first.want)
			if want.Err == api.ErrCorrupt {
				want = m.wrongHeader()
			}
			refuses(t, "P2002: "+first.name+", and "+then.name, m.h, want, m.make)
		}
	}
}

// Each wrong header is told at its own place.
func TestP2002Corrupt(t *testing.T) {
	for i, place := range []func(m *making) int{
		func(m *making) int { return m.closure.N },
		func(m *making) int { return m.link.N },
		func(m *making) int { return m.args[0].N },
	} {
		m := begun(t)
		at := place(m)
		m.h.Poke(at, 0)
		if f, e := m.make(); f != (val{}) || e != wrongAt(at) {
			t.Errorf("P2002: %d: %v, %v, want %v", i, f, e, wrongAt(at))
		}
	}
}

// A wrong link of a free block is told where a frame would have taken it.
func TestP2002CorruptRoom(t *testing.T) {
	m := begun(t)
	first := made(t, m.h, api.KindFrame, 9, 0)
	m.h.Poke(first.N+16, 0)
	refuses(t, "P2002", m.h, wrongAt(first.N+16), m.make)
}

// looking is a frame of a program that Open is given.
type looking struct {
	h Heap
	p api.Program
	c api.Checked
	f val
}

// looked is a frame of a function with 3 locals and 5 slots, of which the instructions 0 to 3 have depths.
func looked(t testing.TB, h Heap) *looking {
	other := api.Func{Params: 5, Locals: 9, Code: []api.Ins{op(api.OpReturn)}}
	own := api.Func{Params: 1, Locals: 3, Code: []api.Ins{op(api.OpFix), op(api.OpFix), op(api.OpAdd), op(api.OpReturn)}}
	return &looking{
		h: h,
		p: api.Program{Funcs: []api.Func{other, own, other}},
		c: api.Checked{Slots: []int{-1, 5, 7}, Depths: [][]int{nil, {0, 1, 2, 1}, nil}},
		f: made(t, h, api.KindFrame, 5, 1),
	}
}

func (l *looking) open() (View, api.Fault) { return Open(l.h, l.p, l.c, l.f) }

func TestP2003View(t *testing.T) {
	each(t, func(t *testing.T, h Heap) {
		l := looked(t, h)
		for pc, depth := range []int{0, 1, 2, 1} {
			h.SetRaw(l.f, 3, pc)
			h.SetRaw(l.f, 4, pc-1)
			idle(t, "P2003", h, func() {
				if v, e := l.open(); e != ok || v != (View{l.f, 1, 3, pc, depth}) {
					t.Errorf("P2003: %v, %v", v, e)
				}
			})
		}
	})
}

func TestP2003Pc(t *testing.T) {
	each(t, func(t *testing.T, h Heap) {
		l := looked(t, h)
		wrong := wrongAt(placed(t, h, l.f) + 3)
		for _, pc := range []int{-1, 4, 5, most, least, 1 << 32, -1 << 32} {
			h.SetRaw(l.f, 3, pc)
			refuses(t, "P2003", h, wrong, l.open)
		}
		l.p.Funcs[1].Code, l.c.Depths[1] = nil, nil
		h.SetRaw(l.f, 3, 0)
		refuses(t, "P2003", h, wrong, l.open)
	})
}

func TestP2003Depths(t *testing.T) {
	each(t, func(t *testing.T, h Heap) {
		for _, x := range []struct {
			locals, depth int
			right         bool
		}{
			{3, 0, true}, {3, 2, true}, {3, 3, false}, {3, -1, false}, {3, least, false}, {3, most, false}, {3, most - 1, false},
			{0, 0, true}, {0, 5, true}, {0, 6, false}, {0, most, false}, {5, 0, true}, {5, 1, false}, {5, -1, false},
			{-1, 6, true}, {-1, 7, false}, {-1, -1, false}, {-1, least, false}, {-1, most, false},
			{-most, most, true}, {least, most, true}, {least, 0, true}, {least, -1, false}, {least, least, false}, {least, least + 5, false}, {6 - most, most - 1, true}, {6 - most, most, false},
		} {
			l := looked(t, h)
			l.p.Funcs[1].Locals = x.locals
			l.c.Depths[1] = []int{7, 7, x.depth, 7}
			h.SetRaw(l.f, 3, 2)
			if !x.right {
				refuses(t, "P2003", h, wrongAt(placed(t, h, l.f)+3), l.open)
			} else if v, e := l.open(); e != ok || v != (View{l.f, 1, x.locals, 2, x.depth}) {
				t.Errorf("P2003: %d locals, depth %d: %v, %v", x.locals, x.depth, v, e)
			}
		}
	})
}

// What is wrong first is told, whatever else is wrong: the pc last.
func TestP2003Errors(t *testing.T) {
	each(t, func(t *testing.T, h Heap) {
		turns := []struct {
			turn func(l *looking)
			want api.Errno
		}{
			{func(l *looking) { l.f = ref(1 << 40) }, api.ErrRef},
			{func(l *looking) { l.f = val{Kind: 1, N: l.f.N} }, api.ErrRef},
			{func(l *looking) { l.f = null() }, api.ErrRef},
			{func(l *looking) { l.f = made(t, h, api.KindClosure, 5, 1) }, api.ErrKind},
			{func(l *looking) { l.f = made(t, h, api.KindVector, 9, 1) }, api.ErrKind},
			{func(l *looking) { l.f = made(t, h, api.KindFrame, 5, 3) }, api.ErrArg},
			{func(l *looking) { l.f = made(t, h, api.KindFrame, 5, -1) }, api.ErrArg},
			{func(l *looking) { l.f = made(t, h, api.KindFrame, 5, least) }, api.ErrArg},
			{func(l *looking) { l.f = made(t, h, api.KindFrame, 4, 1) }, api.ErrArg},
			{func(l *looking) { l.f = made(t, h, api.KindFrame, 6, 1) }, api.ErrArg},
			{func(l *looking) { l.f = made(t, h, api.KindFrame, 5, 0) }, api.ErrArg},
			{func(l *looking) { l.p.Funcs = l.p.Funcs[:1] }, api.ErrArg},
			{func(l *looking) { l.c.Slots = l.c.Slots[:1] }, api.ErrArg},
			{func(l *looking) { l.c.Depths = l.c.Depths[:1] }, api.ErrArg},
			{func(l *looking) { l.c.Depths[1] = l.c.Depths[1][:3] }, api.ErrArg},
			{func(l *looking) { l.p.Funcs[1].Code = make([]api.Ins, 5) }, api.ErrArg},
			{func(l *looking) { l.p.Funcs[1].Locals = 6 }, api.ErrArg},
			{func(l *looking) { l.p.Funcs[1].Locals = most }, api.ErrArg},
			{func(l *looking) { l.c.Slots[1] = most }, api.ErrArg},
			{func(l *looking) { l.h.SetRaw(l.f, 3, 9) }, api.ErrCorrupt},
		}
		for i, first := range turns {
			for _, then := range turns[i:] {
				l := looked(t, h)
				at := placed(t, h, l.f)
				then.turn(l)
				first.turn(l)
				want := fail(first.want)
				if first.want == api.ErrCorrupt {
					want = wrongAt(at + 3)
				}
				refuses(t, "P2003", h, want, l.open)
				refuses(t, "P2008", h, want, func() ([]int, api.Fault) { return Needs(l.h, l.p, l.c, l.f) })
				refuses(t, "P2009", h, want, func() (val, api.Fault) { return Return(l.h, l.p, l.c, l.f, fix(1)) })
			}
		}
	})
}

func TestP2003Corrupt(t *testing.T) {
	h := arena(t, 40)
	l := looked(t, h)
	for _, i := range []int{1, 2, 4, 5, 6, 7, 8, 9} { // nothing but the pc is read
		h.Poke(l.f.N+i, 4)
	}
	if v, e := l.open(); e != ok || v != (View{l.f, 1, 3, 0, 0}) {
		t.Errorf("P2003: %v, %v", v, e)
	}
	h.SetRaw(l.f, 3, 9)
	h.Poke(l.f.N, 0)
	l.p.Funcs = nil
	refuses(t, "P2003", h, wrongAt(l.f.N), l.open)
}

func TestP2007Share(t *testing.T) {
	each(t, func(t *testing.T, h Heap) {
		f := made(t, h, api.KindFrame, 2, 9)
		k := made(t, h, api.KindClosure, 0, 9)
		for _, old := range []int{0, 1, 2, -1, most, least} {
			h.Set(f, 2, k)
			h.SetRaw(f, 3, 55)
			h.SetRaw(f, 4, old)
			h.Set(f, 6, fix(8))
			answers(t, "P2007", Share(h, f), ok)
			stands(t, "P2007", h, f, shape{null(), k, 55, 1, list{void(), fix(8)}})
		}
		for _, x := range held(t, h) {
			refuses(t, "P2007", h, fail(api.ErrKind), func() (struct{}, api.Fault) { return alone(Share(h, x)) })
		}
		for _, x := range []val{null(), fix(f.N), ref(-1), ref(1 << 50), {}, {Kind: 9, N: f.N}} {
			refuses(t, "P2007", h, fail(api.ErrRef), func() (struct{}, api.Fault) { return alone(Share(h, x)) })
		}
	})
}

func TestP2007Corrupt(t *testing.T) {
	h := arena(t, 4)
	for _, x := range []val{made(t, h, api.KindFrame, 2, 0), made(t, h, api.KindBox, 0, 0)} {
		h.Poke(x.N, 1)
		refuses(t, "P2007", h, wrongAt(x.N), func() (struct{}, api.Fault) { return alone(Share(h, x)) })
	}
}
