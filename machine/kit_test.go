package machine

import (
	"fmt"
	"reflect"
	"slices"
	"testing"

	"hearth/api"
	"hearth/check"
	"hearth/graph"
	"hearth/prim"
	"hearth/table"
)

type val = api.Value
type list = []api.Value

var fine = api.Fault{}

const (
	most  = 1<<63 - 1
	least = -1 << 63
)

func fixed(n int) val  { return val{Kind: 1, N: n} }
func ref(n int) val    { return val{Kind: 2, N: n} }
func imm(n int) val    { return val{Kind: 3, N: n} }
func letter(n int) val { return val{Kind: 4, N: n} }

func void() val { return imm(3) }

func wrongAt(at int) api.Fault { return api.Fault{Err: api.ErrCorrupt, At: at} }

// op is an instruction, with its operand, if it has one.
func op(n int, a ...int) api.Ins { return api.Ins{Op: n, A: append(a, 0)[0]} }

// codeOf is instructions one behind the other: lists of them, and single ones.
func codeOf(parts ...any) []api.Ins {
	var out []api.Ins
	for _, x := range parts {
		switch x := x.(type) {
		case api.Ins:
			out = append(out, x)
		case []api.Ins:
			out = append(out, x...)
		}
	}
	return out
}

// fn is a function.
func fn(params, locals, captures int, parts ...any) api.Func {
	return api.Func{Params: params, Locals: locals, Captures: captures, Code: codeOf(parts...)}
}

// program is a program of these functions, with four globals and three texts.
func program(funcs ...api.Func) api.Program {
	return api.Program{Globals: 4, Texts: [][]byte{{}, []byte("hearth"), []byte("the flat arena of words")}, Funcs: funcs}
}

// plainly is a program of one function of three locals.
func plainly(parts ...any) api.Program { return program(fn(0, 3, 0, parts...)) }

// known is what is known of a program.
func known(t testing.TB, p api.Program) api.Checked {
	t.Helper()
	c, f, i, errno := check.Check(p)
	if errno != api.OK {
		t.Fatalf("the program of the test: %v at %d, %d", errno, f, i)
	}
	return c
}

// started is a run of a program over a heap, behind so many steps.
func started[H prim.Heap](t testing.TB, h H, p api.Program, steps int) *Machine[H] {
	t.Helper()
	m, fault := New(h, p, known(t, p))
	if m == nil || fault != fine {
		t.Fatalf("New: %v", fault)
	}
	for i := range steps {
		if !m.Step() {
			t.Fatalf("step %d: %+v", i, m.Outcome())
		}
	}
	return m
}

// arena is a heap of chapter 12.
func arena(t testing.TB, pages int) *table.Heap {
	t.Helper()
	h, errno := table.New(pages)
	if errno != api.OK {
		t.Fatalf("an arena of %d pages: %v", pages, errno)
	}
	return h
}

// each makes a test over both sorts of heaps; make makes another one of the sort.
func each(t *testing.T, test func(t *testing.T, make func() prim.Heap)) {
	t.Run("arena", func(t *testing.T) { test(t, func() prim.Heap { return arena(t, 400) }) })
	t.Run("graph", func(t *testing.T) { test(t, func() prim.Heap { return graph.New() }) })
}

// played is how a run ends within so many steps.
func played(t testing.TB, h prim.Heap, p api.Program, fuel int) api.Outcome {
	t.Helper()
	m := started(t, h, p, 0)
	for range fuel {
		m.Step()
	}
	return m.Outcome()
}

// tells tells a fault, if a run does not stand so.
func tells(t testing.TB, promise string, have, want api.Outcome) {
	t.Helper()
	if !slices.Equal(have.Log, want.Log) || !slices.Equal(have.Collections, want.Collections) {
		t.Errorf("%s: the log %q, collections %v, want %q, %v", promise, have.Log, have.Collections, want.Log, want.Collections)
	}
	have.Log, want.Log, have.Collections, want.Collections = nil, nil, nil, nil
	if !reflect.DeepEqual(have, want) {
		t.Errorf("%s: %+v, want %+v", promise, have, want)
	}
}

func done(value string, steps int) api.Outcome {
	return api.Outcome{End: api.Done, Value: value, Steps: steps}
}

func failure(errno api.Errno, n, steps int) api.Outcome {
	return api.Outcome{End: api.Failed, Err: errno, N: n, Steps: steps}
}

func corrupt(at, steps int) api.Outcome {
	return api.Outcome{End: api.Corrupt, At: at, Steps: steps}
}

// needed tells a fault, if the next instruction needs other objects.
func needed[H prim.Heap](t testing.TB, promise string, m *Machine[H], want ...int) {
	t.Helper()
	idle(t, promise, m.heap, func() {
		if have, fault := m.Needs(); !slices.Equal(have, want) || fault != fine {
			t.Errorf("%s: needs %v, %v, want %v", promise, have, fault, want)
		}
	})
}

// sound ends a test at a fault of what it is made with.
func sound(t testing.TB, fault api.Fault) {
	t.Helper()
	if fault != fine {
		t.Fatalf("the heap of the test: %v", fault)
	}
}

// word is a field of an object.
func word(t testing.TB, h prim.Heap, v val, i int) val {
	t.Helper()
	x, fault := h.Get(v, i)
	sound(t, fault)
	return x
}

// raw is a raw word of an object.
func raw(t testing.TB, h prim.Heap, v val, i int) int {
	t.Helper()
	n, fault := h.Raw(v, i)
	sound(t, fault)
	return n
}

// slots are those of a frame.
func slots(t testing.TB, h prim.Heap, f val) list {
	t.Helper()
	b, fault := h.Open(f)
	sound(t, fault)
	var out list
	for i := 5; i < b.Size; i++ {
		out = append(out, word(t, h, f, i))
	}
	return out
}

// stack tells a fault, if the slots of the current frame behind its locals are others; those above hold void. It looks at the pc besides.
func stack[H prim.Heap](t testing.TB, promise string, m *Machine[H], pc int, want ...val) {
	t.Helper()
	b, fault := m.heap.Open(m.frame)
	sound(t, fault)
	have := slots(t, m.heap, m.frame)[m.program.Funcs[b.Tag].Locals:]
	for i, x := range have {
		if i < len(want) && x != want[i] || i >= len(want) && x != void() {
			t.Errorf("%s: the stack is %v, want %v", promise, have, want)
			break
		}
	}
	if at := raw(t, m.heap, m.frame, 3); at != pc {
		t.Errorf("%s: the pc is %d, want %d", promise, at, pc)
	}
}

// whole is all that a heap has.
func whole(h any) any {
	switch h := h.(type) {
	case *table.Heap:
		return h.Dump()
	case *graph.Heap:
		g, _ := h.Graph(nil)
		return g
	case *spy:
		return whole(h.heap)
	}
	return nil
}

// idle tells a fault, if a call turns anything in the heap.
func idle(t testing.TB, promise string, h any, call func()) {
	t.Helper()
	old := whole(h)
	call()
	if !reflect.DeepEqual(old, whole(h)) {
		t.Errorf("%s: the heap has changed", promise)
	}
}

// spy is a heap that notes its calls, and answers a fault to one of them: the call number at, from 0 on. Beside the fault it answers what is to be left out. Where it is asked whether sizes fit, it says no, if full says so.
type spy struct {
	heap  prim.Heap
	calls []string
	at    int
	fault api.Fault
	full  func(sizes []int) bool
}

// watch notes the calls of a heap that answers as ever.
func watch(h prim.Heap) *spy { return &spy{heap: h, at: -1} }

// forget begins to count anew; a fault is answered to the call number at.
func (s *spy) forget(at int, fault api.Fault) { s.calls, s.at, s.fault = nil, at, fault }

func (s *spy) note(name string, args ...any) bool {
	s.calls = append(s.calls, fmt.Sprint(append([]any{name}, args...)...))
	return len(s.calls)-1 == s.at
}

func (s *spy) Make(kind, n, tag int) (val, api.Fault) {
	if s.note("Make", kind, n, tag) {
		return fixed(99), s.fault
	}
	return s.heap.Make(kind, n, tag)
}

func (s *spy) Open(v val) (api.Block, api.Fault) {
	if s.note("Open", v) {
		b, _ := s.heap.Open(v)
		return b, s.fault
	}
	return s.heap.Open(v)
}

func (s *spy) Get(v val, i int) (val, api.Fault) {
	if s.note("Get", v, i) {
		return fixed(99), s.fault
	}
	return s.heap.Get(v, i)
}

func (s *spy) Set(v val, i int, x val) api.Fault {
	if s.note("Set", v, i, x) {
		return s.fault
	}
	return s.heap.Set(v, i, x)
}

func (s *spy) Raw(v val, i int) (int, api.Fault) {
	if s.note("Raw", v, i) {
		return 99, s.fault
	}
	return s.heap.Raw(v, i)
}

func (s *spy) SetRaw(v val, i, x int) api.Fault {
	if s.note("SetRaw", v, i, x) {
		return s.fault
	}
	return s.heap.SetRaw(v, i, x)
}

func (s *spy) MakeText(b []byte) (val, api.Fault) {
	if s.note("MakeText", b) {
		return fixed(99), s.fault
	}
	return s.heap.MakeText(b)
}

func (s *spy) Text(v val) ([]byte, api.Fault) {
	if s.note("Text", v) {
		return []byte("ninety-nine"), s.fault
	}
	return s.heap.Text(v)
}

func (s *spy) MakeTable() (val, api.Fault) {
	if s.note("MakeTable") {
		return fixed(99), s.fault
	}
	return s.heap.MakeTable()
}

func (s *spy) TableGet(t, k val) (val, bool, api.Fault) {
	if s.note("TableGet", t, k) {
		return fixed(99), true, s.fault
	}
	return s.heap.TableGet(t, k)
}

func (s *spy) TablePut(t, k, v val) api.Fault {
	if s.note("TablePut", t, k, v) {
		return s.fault
	}
	return s.heap.TablePut(t, k, v)
}

func (s *spy) TableDelete(t, k val) (bool, api.Fault) {
	if s.note("TableDelete", t, k) {
		return true, s.fault
	}
	return s.heap.TableDelete(t, k)
}

func (s *spy) TableCount(t val) (int, api.Fault) {
	if s.note("TableCount", t) {
		return 99, s.fault
	}
	return s.heap.TableCount(t)
}

func (s *spy) PutNeeds(t, k val) ([]int, api.Fault) {
	if s.note("PutNeeds", t, k) {
		return []int{99}, s.fault
	}
	return s.heap.PutNeeds(t, k)
}

// Fits is not counted: it has no fault.
func (s *spy) Fits(sizes ...int) bool {
	return (s.full == nil || !s.full(sizes)) && s.heap.Fits(sizes...)
}

func (s *spy) Node(v val) (api.Node, api.Fault) {
	if s.note("Node", v) {
		return api.Node{Kind: 3}, s.fault
	}
	return s.heap.Node(v)
}

// writes are the calls that turn something.
func (s *spy) writes() []string {
	var out []string
	for _, c := range s.calls {
		if !slices.ContainsFunc([]string{"Open", "Get", "Raw", "Text", "TableGet", "TableCount", "PutNeeds", "Node"}, func(name string) bool {
			return len(c) > len(name) && c[:len(name)] == name && !isLetter(c[len(name)])
		}) {
			out = append(out, c)
		}
	}
	return out
}

func isLetter(c byte) bool { return c >= 'a' && c <= 'z' || c >= 'A' && c <= 'Z' }
