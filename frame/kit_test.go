package frame

import (
	"reflect"
	"slices"
	"testing"

	"hearth/api"
	"hearth/graph"
	"hearth/object"
	"hearth/table"
)

type val = api.Value
type list = []api.Value

var ok = api.Fault{}

const (
	most  = 1<<63 - 1
	least = -1 << 63
)

func fix(n int) val  { return val{Kind: 1, N: n} }
func ref(n int) val  { return val{Kind: 2, N: n} }
func imm(n int) val  { return val{Kind: 3, N: n} }
func char(n int) val { return val{Kind: 4, N: n} }

func void() val { return imm(3) }

func wrongAt(at int) api.Fault { return api.Fault{Err: api.ErrCorrupt, At: at} }

// op is an instruction, with its operand, if it has one.
func op(n int, a ...int) api.Ins { return api.Ins{Op: n, A: append(a, 0)[0]} }

// many is a list of one value, so many times; below 0 times is never.
func many(x val, n int) list { return slices.Repeat(list{x}, max(n, 0)) }

// one is a program of one function, of which so much is known.
func one(f api.Func, slots int, depths ...int) (api.Program, api.Checked) {
	return api.Program{Funcs: []api.Func{f}}, api.Checked{Slots: []int{slots}, Depths: [][]int{depths}}
}

// example is the program of the chapter's examples.
func example() (api.Program, api.Checked) {
	code := []api.Ins{op(api.OpLocal), op(api.OpLocal), op(api.OpCall, 1), op(api.OpReturn)}
	return one(api.Func{Params: 1, Locals: 2, Code: code}, 4, 0, 1, 2, 1)
}

// arena is a heap of chapter 12.
func arena(t testing.TB, pages int) *table.Heap {
	t.Helper()
	h, errno := table.New(pages)
	if errno != api.OK {
		t.Fatalf("an arena of %d pages: %v", pages, errno)
	}
	return h
}

// each makes a test over all sorts of heaps.
func each(t *testing.T, test func(t *testing.T, h Heap)) {
	o, _ := object.New(400)
	t.Run("arena", func(t *testing.T) { test(t, arena(t, 400)) })
	t.Run("object", func(t *testing.T) { test(t, o) })
	t.Run("graph", func(t *testing.T) { test(t, graph.New()) })
}

// made makes an object.
func made(t testing.TB, h Heap, kind, n, tag int) val {
	t.Helper()
	v, f := h.Make(kind, n, tag)
	if f != ok {
		t.Fatalf("Make(%d, %d, %d): %v", kind, n, tag, f)
	}
	return v
}

// placed is the place of an object, or a node's number.
func placed(t testing.TB, h Heap, v val) int {
	t.Helper()
	b, f := h.Open(v)
	if f != ok {
		t.Fatalf("Open(%v): %v", v, f)
	}
	return b.At
}

// shape is all that a frame has.
type shape struct {
	link, closure val
	pc, shared    int
	slots         list
}

// shapeOf is a frame's shape.
func shapeOf(t testing.TB, h Heap, f val) shape {
	t.Helper()
	b, e := h.Open(f)
	if e != ok || b.Kind != api.KindFrame {
		t.Fatalf("%v is no frame: %v, %v", f, b, e)
	}
	var s shape
	s.link, _ = h.Get(f, 1)
	s.closure, _ = h.Get(f, 2)
	s.pc, _ = h.Raw(f, 3)
	s.shared, _ = h.Raw(f, 4)
	for i := 5; i < b.Size; i++ {
		x, _ := h.Get(f, i)
		s.slots = append(s.slots, x)
	}
	return s
}

// stands tells a fault, if a frame is otherwise.
func stands(t testing.TB, promise string, h Heap, f val, want shape) {
	t.Helper()
	have := shapeOf(t, h, f)
	if !slices.Equal(have.slots, want.slots) {
		t.Errorf("%s: slots %v, want %v", promise, have.slots, want.slots)
	}
	have.slots, want.slots = nil, nil
	if !reflect.DeepEqual(have, want) {
		t.Errorf("%s: the frame is %+v, want %+v", promise, have, want)
	}
}

// whole is all that a heap has.
func whole(h Heap) any {
	switch h := h.(type) {
	case interface{ Dump() api.Dump }:
		return h.Dump()
	case *graph.Heap:
		g, _ := h.Graph(nil)
		return g
	case *recorder:
		return whole(h.Heap)
	}
	return nil
}

// idle tells a fault, if a call turns anything in the heap.
func idle(t testing.TB, promise string, h Heap, call func()) {
	t.Helper()
	old := whole(h)
	call()
	if !reflect.DeepEqual(old, whole(h)) {
		t.Errorf("%s: the heap has changed", promise)
	}
}

// answers tells a fault, if a call that answers a fault alone answers another one.
func answers(t testing.TB, promise string, have, want api.Fault) {
	t.Helper()
	if have != want {
		t.Errorf("%s: %v, want %v", promise, have, want)
	}
}

// refuses tells a fault, if a call does not answer this fault beside nothing, or turns anything.
func refuses[T any](t testing.TB, promise string, h Heap, want api.Fault, call func() (T, api.Fault)) {
	t.Helper()
	idle(t, promise, h, func() {
		x, f := call()
		if f != want {
			t.Errorf("%s: %v, want %v", promise, f, want)
		}
		if !reflect.ValueOf(&x).Elem().IsZero() {
			t.Errorf("%s: %v beside %v", promise, x, f)
		}
	})
}

// alone is a call that answers a fault alone, for refuses.
func alone(f api.Fault) (struct{}, api.Fault) { return struct{}{}, f }

// called is one call of a heap.
type called struct {
	name string
	v    val
	i    int
	x    val // what is set; a raw number as its N
}

// recorder is a heap that notes its calls, and answers a fault to one of them: the call number at, from 0 on.
type recorder struct {
	Heap
	calls []called
	at    int
	fault api.Fault
}

// record notes the calls of a heap that answers as ever.
func record(h Heap) *recorder { return &recorder{Heap: h, at: -1} }

func (r *recorder) note(c called) api.Fault {
	r.calls = append(r.calls, c)
	if len(r.calls)-1 == r.at {
		return r.fault
	}
	return ok
}

func (r *recorder) Make(kind, n, tag int) (val, api.Fault) {
	if f := r.note(called{name: "Make", v: val{Kind: kind, N: n}, i: tag}); f != ok {
		return val{}, f
	}
	return r.Heap.Make(kind, n, tag)
}

func (r *recorder) Open(v val) (api.Block, api.Fault) {
	if f := r.note(called{name: "Open", v: v}); f != ok {
		return api.Block{}, f
	}
	return r.Heap.Open(v)
}

func (r *recorder) Get(v val, i int) (val, api.Fault) {
	if f := r.note(called{name: "Get", v: v, i: i}); f != ok {
		return val{}, f
	}
	return r.Heap.Get(v, i)
}

func (r *recorder) Set(v val, i int, x val) api.Fault {
	if f := r.note(called{"Set", v, i, x}); f != ok {
		return f
	}
	return r.Heap.Set(v, i, x)
}

func (r *recorder) Raw(v val, i int) (int, api.Fault) {
	if f := r.note(called{name: "Raw", v: v, i: i}); f != ok {
		return 0, f
	}
	return r.Heap.Raw(v, i)
}

func (r *recorder) SetRaw(v val, i, x int) api.Fault {
	if f := r.note(called{"SetRaw", v, i, val{N: x}}); f != ok {
		return f
	}
	return r.Heap.SetRaw(v, i, x)
}

// only are the calls of these names.
func (r *recorder) only(names ...string) []called {
	var out []called
	for _, c := range r.calls {
		if slices.Contains(names, c.name) {
			out = append(out, c)
		}
	}
	return out
}
