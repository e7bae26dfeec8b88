package frame

import (
	"math/rand"
	"slices"
	"testing"

	"hearth/api"
	"hearth/audit"
	"hearth/graph"
	"hearth/table"
)

// The chapter's words as plainly as they stand, over numbered objects, to hold the package against over both sorts of heaps.

// thing is an object: of a frame all its words by their numbers, the raw ones as fixnums.
type thing struct {
	kind, tag int
	words     map[int]val
	size      int
}

// plain is a heap of things.
type plain struct{ things []*thing } // the thing number n at n - 1

func (m *plain) at(v val) *thing {
	if v.Kind != 2 || v.N < 1 || v.N > len(m.things) {
		return nil
	}
	return m.things[v.N-1]
}

func (m *plain) add(kind, size, tag int) val {
	x := &thing{kind, tag, map[int]val{}, size}
	m.things = append(m.things, x)
	if kind == 11 {
		x.words[1], x.words[2], x.words[3], x.words[4] = imm(0), imm(0), fix(0), fix(0)
		for i := 5; i < size; i++ {
			x.words[i] = imm(3)
		}
	}
	return ref(len(m.things))
}

// is is 0, if v refers to a thing of the kind; else the error.
func (m *plain) is(v val, kind int) api.Errno {
	x := m.at(v)
	if x == nil {
		return 30
	}
	if x.kind != kind {
		return 31
	}
	return 0
}

// puttable is P2001.
func (m *plain) puttable(list ...val) api.Errno {
	for _, v := range list {
		right := false
		switch v.Kind {
		case 1:
			right = v.N >= -1<<60 && v.N < 1<<60
		case 2:
			x := m.at(v)
			right = x != nil && x.kind <= 10
		case 3:
			right = v.N >= 0 && v.N <= 5
		case 4:
			right = v.N >= 0 && v.N < 0xD800 || v.N > 0xDFFF && v.N <= 0x10FFFF
		}
		if !right {
			return 33
		}
	}
	return 0
}

func plainFits(p api.Program, c api.Checked, f int) bool {
	for n := range p.Funcs {
		if n == f {
			return n < len(c.Slots) && n < len(c.Depths) && len(c.Depths[n]) == len(p.Funcs[n].Code)
		}
	}
	return false
}

// new is P2002.
func (m *plain) new(p api.Program, c api.Checked, closure, link val, args list) (val, api.Errno) {
	if e := m.is(closure, 6); e != 0 {
		return val{}, e
	}
	tag := m.at(closure).tag
	if !plainFits(p, c, tag) || len(args) != p.Funcs[tag].Params || c.Slots[tag] < len(args) || c.Slots[tag] > 128 {
		return val{}, 1
	}
	if link != imm(0) {
		if e := m.is(link, 11); e != 0 {
			return val{}, e
		}
	}
	if e := m.puttable(args...); e != 0 {
		return val{}, e
	}
	f := m.add(11, 5+c.Slots[tag], tag)
	m.at(f).words[1], m.at(f).words[2] = link, closure
	for i, x := range args {
		m.at(f).words[5+i] = x
	}
	return f, 0
}

// open is P2003.
func (m *plain) open(p api.Program, c api.Checked, f val) (View, api.Errno) {
	if e := m.is(f, 11); e != 0 {
		return View{}, e
	}
	x := m.at(f)
	if !plainFits(p, c, x.tag) || x.size-5 != c.Slots[x.tag] || p.Funcs[x.tag].Locals > c.Slots[x.tag] {
		return View{}, 1
	}
	pc, locals := x.words[3].N, p.Funcs[x.tag].Locals
	if pc < 0 || pc >= len(c.Depths[x.tag]) || c.Depths[x.tag][pc] < 0 || c.Depths[x.tag][pc]+locals > x.size-5 {
		return View{}, 21
	}
	return View{f, x.tag, locals, pc, c.Depths[x.tag][pc]}, 0
}

// taken are the numbers of the words of the n values on top of the stack.
func (m *plain) taken(v View, n int) ([]int, api.Errno) {
	if n < 0 || n > v.Depth {
		return nil, 1
	}
	if e := m.is(v.Frame, 11); e != 0 {
		return nil, e
	}
	if v.Locals < 0 || m.at(v.Frame).size-5 < v.Locals+v.Depth {
		return nil, 1
	}
	var out []int
	for i := v.Depth - n; i < v.Depth; i++ {
		out = append(out, 5+v.Locals+i)
	}
	return out, 0
}

// operands is P2004.
func (m *plain) operands(v View, n int) (list, api.Errno) {
	words, e := m.taken(v, n)
	if e != 0 {
		return nil, e
	}
	var out list
	for _, i := range words {
		out = append(out, m.at(v.Frame).words[i])
	}
	return out, 0
}

// finish is P2005; P2006, where the pc is waits.
func (m *plain) finish(v View, n int, put list, pc int) api.Errno {
	if pc < 0 && pc != waits {
		return 1
	}
	words, e := m.taken(v, n)
	if e != 0 {
		return e
	}
	x := m.at(v.Frame)
	first := 5 + v.Locals + v.Depth - n
	if x.size < first+len(put) {
		return 1
	}
	if e := m.puttable(put...); e != 0 {
		return e
	}
	for _, i := range words {
		x.words[i] = imm(3)
	}
	for i, y := range put {
		x.words[first+i] = y
	}
	if pc != waits {
		x.words[3] = fix(pc)
	}
	return 0
}

const waits = least + 77

// needs is P2008, and how many values are taken where something is returned.
func (m *plain) needs(p api.Program, c api.Checked, f val) (View, int, []int, api.Errno) {
	v, e := m.open(p, c, f)
	if e != 0 {
		return View{}, 0, nil, e
	}
	in, takes := p.Funcs[v.Func].Code[v.Pc], 0
	switch {
	case in.Op == 17 && in.A >= 0 && in.A < 1<<40:
		takes = in.A + 1
	case in.Op == 20:
		takes = 1
	}
	if takes < 1 || takes > v.Depth {
		return View{}, 0, nil, 86
	}
	if m.at(f).words[4] != fix(0) {
		return v, takes, []int{m.at(f).size}, 0
	}
	return v, takes, nil, 0
}

// result is P2009.
func (m *plain) result(p api.Program, c api.Checked, f, answer val) (val, api.Errno) {
	v, takes, copies, e := m.needs(p, c, f)
	if e != 0 {
		return val{}, e
	}
	if e := m.puttable(answer); e != 0 {
		return val{}, e
	}
	if len(copies) > 0 {
		old := m.at(f)
		v.Frame = m.add(11, old.size, old.tag)
		for i, x := range old.words {
			if i != 4 {
				m.at(v.Frame).words[i] = x
			}
		}
		if link := old.words[1]; link != imm(0) {
			m.at(link).words[4] = fix(1)
		}
	}
	if e := m.finish(v, takes, list{answer}, v.Pc+1); e != 0 {
		return val{}, e
	}
	return v.Frame, 0
}

// world is an arena, a graph and the plain heap, in which the same was done.
type world struct {
	t      *testing.T
	arena  *table.Heap
	graph  *graph.Heap
	plain  plain
	source *rand.Rand
	p      api.Program
	c      api.Checked
	told   map[api.Errno]int
}

// place is a value of the plain heap, which numbers as the graph does, in the arena.
func (w *world) place(v val) val {
	if w.plain.at(v) == nil {
		return v
	}
	at, _ := w.arena.Find(v.N)
	return ref(at)
}

func (w *world) places(list []val) []val {
	var out []val
	for _, v := range list {
		out = append(out, w.place(v))
	}
	return out
}

// make makes an object everywhere.
func (w *world) make(kind, n, tag int) val {
	a, e := w.arena.Make(kind, n, tag)
	v, f := w.graph.Make(kind, n, tag)
	b, g := w.arena.Open(a)
	if e != ok || f != ok || g != ok {
		w.t.Fatalf("Make(%d, %d, %d): %v, %v, %v", kind, n, tag, e, f, g)
	}
	if x := w.plain.add(kind, b.Size, tag); x != v {
		w.t.Fatalf("%v, %v", x, v)
	}
	return v
}

func (w *world) below(n int) int { return w.source.Intn(max(n, 1)) }

// some is a number from a list.
func some[T any](w *world, list ...T) T { return list[w.source.Intn(len(list))] }

// rarely is true in one of n cases.
func (w *world) rarely(n int) bool { return w.source.Intn(n) == 0 }

// oneOf is an object of a kind; nothing, if there is none.
func (w *world) oneOf(kind int) val {
	for range 30 {
		n := w.below(len(w.plain.things))
		if len(w.plain.things) > n && w.plain.things[n].kind == kind {
			return ref(n + 1)
		}
	}
	return imm(0)
}

// value is a value, which may be put in most cases.
func (w *world) value() val {
	if w.rarely(25) {
		return some(w, val{}, imm(6), fix(1<<60), char(0xD800), ref(1<<40), ref(-1), w.oneOf(11))
	}
	return some(w, fix(w.below(1000)), imm(w.below(6)), char(65), w.oneOf(1), w.oneOf(2), w.oneOf(6), w.oneOf(10))
}

func (w *world) values(n int) list {
	var out list
	for range n {
		out = append(out, w.value())
	}
	return out
}

// frame is a frame in most cases.
func (w *world) frame() val {
	if w.rarely(20) {
		return some(w, imm(0), w.oneOf(6), w.oneOf(1), fix(1), ref(1<<40), val{})
	}
	return w.oneOf(11)
}

// program makes a program, and what is known of it. It need not be one that is checked.
func (w *world) program() {
	w.p, w.c = api.Program{}, api.Checked{}
	for range 1 + w.below(4) {
		f := api.Func{Params: w.below(4)}
		f.Locals = f.Params + w.below(3)
		stack := 1 + w.below(5)
		var depths []int
		for range 1 + w.below(6) {
			depths = append(depths, w.below(stack+1))
			f.Code = append(f.Code, some(w, op(17, w.below(4)), op(17, w.below(4)), op(17, 0), op(20), op(20), op(19), op(18, 1), op(11), op(1, 5)))
		}
		w.p.Funcs = append(w.p.Funcs, f)
		w.c.Slots, w.c.Depths = append(w.c.Slots, f.Locals+stack), append(w.c.Depths, depths)
	}
}

// marred is the program, in one of several cases with something wrong in it.
func (w *world) marred() (api.Program, api.Checked) {
	p := api.Program{Funcs: slices.Clone(w.p.Funcs)}
	c := api.Checked{Slots: slices.Clone(w.c.Slots)}
	for i, d := range w.c.Depths {
		c.Depths = append(c.Depths, slices.Clone(d))
		p.Funcs[i].Code = slices.Clone(p.Funcs[i].Code)
	}
	if !w.rarely(6) {
		return p, c
	}
	f := w.below(len(p.Funcs))
	wild := some(w, -1, 0, 1, 2, 3, 5, 9, 128, 129, 1<<40, -1<<40)
	switch w.below(9) {
	case 0:
		p.Funcs = p.Funcs[:f]
	case 1:
		c.Slots = c.Slots[:f]
	case 2:
		c.Depths = c.Depths[:f]
	case 3:
		c.Depths[f] = append(c.Depths[f], 0)
	case 4:
		c.Slots[f] = wild
	case 5:
		p.Funcs[f].Locals = wild
	case 6:
		p.Funcs[f].Params = wild
	case 7:
		c.Depths[f][w.below(len(c.Depths[f]))] = wild
	case 8:
		p.Funcs[f].Code[w.below(len(p.Funcs[f].Code))].A = wild
	}
	return p, c
}

// view is a view of a frame, which is right in most cases.
func (w *world) view() View {
	f := w.frame()
	v, e := w.plain.open(w.p, w.c, f)
	if e != 0 {
		v = View{Frame: f, Locals: w.below(3), Depth: w.below(3)}
	}
	if w.rarely(8) {
		v.Locals = some(w, -1, 0, 1, 2, 7, 1<<40)
	}
	if w.rarely(8) {
		v.Depth = some(w, -1, 0, 1, 2, 7, 1<<40)
	}
	if w.rarely(4) {
		v.Func, v.Pc = w.below(9)-3, w.below(9)-3
	}
	return v
}

func (w *world) placedView(v View) View {
	v.Frame = w.place(v.Frame)
	return v
}

// faults holds the faults of the arena and of the graph against an error; ErrCorrupt is one of the pc of f.
func (w *world) faults(call string, f val, a, g api.Fault, want api.Errno) {
	w.t.Helper()
	w.told[want]++
	wantA, wantG := fail(want), fail(want)
	if want == api.ErrCorrupt {
		wantA.At, wantG.At = w.place(f).N+3, f.N+3
	}
	if a != wantA || g != wantG {
		w.t.Fatalf("%s: %v, %v, want %v, %v", call, a, g, wantA, wantG)
	}
}

// frames holds a frame that was answered against the plain one.
func (w *world) frames(call string, a, g, want val) {
	w.t.Helper()
	if a != w.place(want) || g != want {
		w.t.Fatalf("%s: %v, %v, want %v, %v", call, a, g, w.place(want), want)
	}
}

// step makes some call.
func (w *world) step() {
	p, c := w.marred()
	switch w.below(12) {
	case 0, 1:
		w.stepNew(p, c)
	case 2:
		f := w.frame()
		want, errno := w.plain.open(p, c, f)
		a, e := Open(w.arena, p, c, w.place(f))
		g, e2 := Open(w.graph, p, c, f)
		w.faults("Open", f, e, e2, errno)
		if a != w.placedView(want) || g != want {
			w.t.Fatalf("Open: %v, %v, want %v", a, g, want)
		}
	case 3, 4:
		w.stepTake()
	case 5:
		f := w.frame()
		errno := w.plain.is(f, 11)
		if errno == 0 {
			w.plain.at(f).words[4] = fix(1)
		}
		w.faults("Share", f, Share(w.arena, w.place(f)), Share(w.graph, f), errno)
	case 6:
		f := w.frame()
		_, _, want, errno := w.plain.needs(p, c, f)
		a, e := Needs(w.arena, p, c, w.place(f))
		g, e2 := Needs(w.graph, p, c, f)
		w.faults("Needs", f, e, e2, errno)
		if !slices.Equal(a, want) || !slices.Equal(g, want) {
			w.t.Fatalf("Needs: %v, %v, want %v", a, g, want)
		}
	case 7:
		w.poke()
	default:
		f, x := w.frame(), w.value()
		atF, atX := w.place(f), w.place(x)
		want, errno := w.plain.result(p, c, f, x)
		a, e := Return(w.arena, p, c, atF, atX)
		g, e2 := Return(w.graph, p, c, f, x)
		w.faults("Return", f, e, e2, errno)
		w.frames("Return", a, g, want)
	}
}

func (w *world) stepNew(p api.Program, c api.Checked) {
	k, link, args := w.oneOf(6), w.frame(), w.values(w.below(4))
	if w.rarely(3) {
		link = imm(0)
	}
	if x := w.plain.at(k); x != nil && plainFits(p, c, x.tag) && !w.rarely(8) {
		args = w.values(p.Funcs[x.tag].Params % 200)
	}
	atK, atLink, atArgs := w.place(k), w.place(link), w.places(args)
	want, errno := w.plain.new(p, c, k, link, args)
	a, e := New(w.arena, p, c, atK, atLink, atArgs)
	g, e2 := New(w.graph, p, c, k, link, args)
	w.faults("New", k, e, e2, errno)
	w.frames("New", a, g, want)
}

func (w *world) stepTake() {
	v := w.view()
	n := w.below(v.Depth%9 + 1)
	if w.rarely(8) {
		n = some(w, -1, v.Depth, v.Depth+1, 1<<40)
	}
	put, pc := w.values(w.below(3)), w.below(7)
	if w.rarely(12) {
		pc = some(w, -1, -9, 1<<40)
	}
	at, atPut := w.placedView(v), w.places(put)
	switch w.below(4) {
	case 0:
		want, errno := w.plain.operands(v, n)
		a, e := Operands(w.arena, at, n)
		g, e2 := Operands(w.graph, v, n)
		w.faults("Operands", v.Frame, e, e2, errno)
		if !slices.Equal(a, w.places(want)) || !slices.Equal(g, want) {
			w.t.Fatalf("Operands: %v, %v, want %v", a, g, want)
		}
	case 1:
		errno := w.plain.finish(v, n, nil, waits)
		w.faults("Wait", v.Frame, Wait(w.arena, at, n), Wait(w.graph, v, n), errno)
	default:
		errno := w.plain.finish(v, n, put, pc)
		w.faults("Finish", v.Frame, Finish(w.arena, at, n, atPut, pc), Finish(w.graph, v, n, put, pc), errno)
	}
}

// poke writes a raw word of a frame.
func (w *world) poke() {
	f := w.oneOf(11)
	if w.plain.at(f) == nil {
		return
	}
	i, x := 3, w.below(6)
	if w.rarely(10) {
		x = some(w, -1, 9, 1<<40)
	}
	if w.rarely(4) {
		i, x = 4, some(w, 0, 0, 0, 1, 5, -5)
	}
	w.plain.at(f).words[i] = fix(x)
	w.arena.SetRaw(w.place(f), i, x)
	w.graph.SetRaw(f, i, x)
}

// alike holds the frames of the arena, told as a graph, and those of the graph against the plain ones.
func (w *world) alike() {
	w.t.Helper()
	a, e := w.arena.Graph(nil)
	g, e2 := w.graph.Graph(nil)
	if e != ok || e2 != ok || !graph.Equal(a, g) || len(g.Nodes) != len(w.plain.things) {
		w.t.Fatalf("the graphs are not one: %v, %v", e, e2)
	}
	for i, x := range w.plain.things {
		if x.kind != 11 {
			continue
		}
		fields := list{x.words[1], x.words[2]}
		for n := 5; n < x.size; n++ {
			fields = append(fields, x.words[n])
		}
		raw := []int{x.tag, x.words[3].N, x.words[4].N}
		if n := g.Nodes[i]; n.Kind != 11 || !slices.Equal(n.Raw, raw) || !slices.Equal(n.Fields, fields) {
			w.t.Fatalf("the frame %d is %v, want %v, %v", i+1, n, raw, fields)
		}
	}
	if found := audit.Check(w.arena.Dump()); len(found) > 0 {
		w.t.Fatalf("wrong in the arena: %v", found)
	}
}

// Frames of any programs, made and returned into without a rule.
func TestAgainstPlainWords(t *testing.T) {
	told := map[api.Errno]int{}
	for seed := range 120 {
		w := &world{t: t, arena: arena(t, 1500), graph: graph.New(), source: rand.New(rand.NewSource(int64(seed))), told: told}
		w.program()
		for _, kind := range []int{1, 2, 10} {
			w.make(kind, 0, 0)
		}
		for tag := range w.p.Funcs {
			w.make(6, 0, tag)
			w.make(6, 0, tag)
		}
		w.make(6, 0, len(w.p.Funcs))
		for turn := range 400 {
			w.step()
			if turn%40 == 0 {
				w.alike()
			}
		}
		w.alike()
	}
	for _, errno := range []api.Errno{0, 1, 21, 30, 31, 33, 86} {
		if told[errno] < 300 {
			t.Errorf("%v was told %d times alone", errno, told[errno])
		}
	}
}
