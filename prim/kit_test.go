package prim

import (
	"fmt"
	"reflect"
	"slices"
	"testing"

	"hearth/api"
	"hearth/graph"
	"hearth/table"
)

type val = api.Value
type list = []api.Value

const (
	most  = 1<<63 - 1
	least = -1 << 63
)

var fine = api.Fail{}

func fixed(n int) val  { return val{Kind: 1, N: n} }
func ref(n int) val    { return val{Kind: 2, N: n} }
func code(n int) val   { return val{Kind: 3, N: n} }
func letter(n int) val { return val{Kind: 4, N: n} }

func null() val   { return code(0) }
func no() val     { return code(1) }
func yes() val    { return code(2) }
func nought() val { return code(3) }

func failure(e api.Errno) api.Fail         { return api.Fail{Err: e} }
func failureN(e api.Errno, n int) api.Fail { return api.Fail{Err: e, N: n} }
func wrongAt(at int) api.Fail              { return api.Fail{Err: api.ErrCorrupt, At: at} }

// all are the instructions that the package has.
func all() []int {
	var out []int
	for op := 30; op <= 74; op++ {
		out = append(out, op)
	}
	return out
}

// makers are the instructions that may make an object.
func makers() []int { return []int{30, 35, 38, 54, 55, 56, 57, 59, 63, 67, 70, 72} }

// arena is a heap of chapter 12.
func arena(t testing.TB, pages int) *table.Heap {
	t.Helper()
	h, errno := table.New(pages)
	if errno != api.OK {
		t.Fatalf("an arena of %d pages: %v", pages, errno)
	}
	return h
}

// each makes a test over both sorts of heaps.
func each(t *testing.T, test func(t *testing.T, h Heap)) {
	t.Run("arena", func(t *testing.T) { test(t, arena(t, 400)) })
	t.Run("graph", func(t *testing.T) { test(t, graph.New()) })
}

// sound ends a test at a fault of what it is made with.
func sound(t testing.TB, fault api.Fault) {
	t.Helper()
	if fault != (api.Fault{}) {
		t.Fatalf("the heap of the test: %v", fault)
	}
}

// made makes an object, and sets its words.
func made(t testing.TB, h Heap, kind, n, tag int, words ...val) val {
	t.Helper()
	v, fault := h.Make(kind, n, tag)
	sound(t, fault)
	for i, x := range words {
		sound(t, h.Set(v, 1+i, x))
	}
	return v
}

func pair(t testing.TB, h Heap, a, b val) val {
	t.Helper()
	return made(t, h, api.KindPair, 0, 0, a, b)
}

func vec(t testing.TB, h Heap, words ...val) val {
	t.Helper()
	return made(t, h, api.KindVector, len(words), 0, words...)
}

func text(t testing.TB, h Heap, s string) val {
	t.Helper()
	v, fault := h.MakeText([]byte(s))
	sound(t, fault)
	return v
}

func flo(t testing.TB, h Heap, bits int) val {
	t.Helper()
	v := made(t, h, api.KindFlo, 0, 0)
	sound(t, h.SetRaw(v, 1, bits))
	return v
}

// tab is a table with these keys and values, in turns.
func tab(t testing.TB, h Heap, entries ...val) val {
	t.Helper()
	v, fault := h.MakeTable()
	sound(t, fault)
	for i := 0; i < len(entries); i += 2 {
		sound(t, h.TablePut(v, entries[i], entries[i+1]))
	}
	return v
}

// world is an object of each kind, and values that refer to nothing.
type world struct {
	pair, box, vector, text, flo, closure, cont, weak, eph, table, frame val
	nothing                                                              val // a reference to no object
}

func worldOf(t testing.TB, h Heap) world {
	t.Helper()
	w := world{nothing: ref(api.MostFix)}
	w.pair = pair(t, h, fixed(1), fixed(2))
	w.box = made(t, h, api.KindBox, 0, 0, w.pair)
	w.vector = vec(t, h, fixed(10), w.box, letter(65))
	w.text = text(t, h, "hello, hearth")
	w.flo = flo(t, h, 0x3FF8000000000000) // 1.5
	w.closure = made(t, h, api.KindClosure, 1, 0, w.pair)
	w.frame = made(t, h, api.KindFrame, 2, 0)
	w.cont = made(t, h, api.KindCont, 0, 0, w.frame)
	w.weak = made(t, h, api.KindWeak, 0, 0, w.pair, w.box)
	w.eph = made(t, h, api.KindEph, 0, 0, w.box, w.text)
	w.table = tab(t, h, fixed(7), fixed(8), w.pair, w.box)
	return w
}

// byKind is the world's object of each kind.
func (w world) byKind() map[int]val {
	return map[int]val{1: w.pair, 2: w.box, 3: w.vector, 4: w.text, 5: w.flo, 6: w.closure, 7: w.cont, 8: w.weak, 9: w.eph, 10: w.table, 11: w.frame}
}

// values are values of all sorts, those of the world and others.
func (w world) values() list {
	return list{w.pair, w.box, w.vector, w.text, w.flo, w.closure, w.cont, w.weak, w.eph, w.table, w.frame, w.nothing,
		fixed(0), fixed(2), fixed(-1), fixed(7), fixed(65), fixed(1023), fixed(1024), fixed(api.MostFix), fixed(api.LeastFix),
		null(), no(), yes(), nought(), code(4), code(5), letter(0), letter(65), letter(0x10FFFF)}
}

// invalid are some that are no values.
func invalid() list {
	return list{{}, {Kind: 1, N: 1 << 60}, {Kind: 1, N: least}, {Kind: 2, N: -1}, {Kind: 2, N: 1 << 60}, {Kind: 3, N: -1}, {Kind: 3, N: 6}, {Kind: 4, N: -1}, {Kind: 4, N: 0xD800}, {Kind: 4, N: 0xDFFF}, {Kind: 4, N: 0x110000}, {Kind: 5}, {Kind: -1, N: 5}}
}

// right are operands with which each instruction goes well.
func (w world) right() map[int]list {
	f, x := fixed, nought()
	return map[int]list{
		30: {w.box, x}, 31: {w.pair}, 32: {w.pair}, 33: {w.pair, w.text}, 34: {w.pair, w.text},
		35: {w.frameless()}, 36: {w.box}, 37: {w.box, x},
		38: {f(3), w.pair}, 39: {w.vector, f(1)}, 40: {w.vector, f(2), w.flo}, 41: {w.vector},
		42: {w.text}, 43: {w.text, f(4)}, 44: {w.text, w.text}, 45: {w.pair, w.pair}, 46: {w.weak}, 47: {no()},
		48: {f(1), f(2)}, 49: {f(1), f(2)}, 50: {f(3), f(2)}, 51: {f(7), f(2)}, 52: {f(7), f(4)}, 53: {f(1), f(2)},
		54: {w.flo, w.flo}, 55: {w.flo, w.flo}, 56: {w.flo, w.flo}, 57: {w.flo, w.flo}, 58: {w.flo, w.flo},
		59: {f(5)}, 60: {w.flo}, 61: {letter(65)}, 62: {f(65)},
		63: {w.pair, x}, 64: {w.weak}, 65: {w.weak}, 66: {w.weak, x}, 67: {w.pair, x}, 68: {w.eph}, 69: {w.eph},
		70: {}, 71: {w.table, f(7), x}, 72: {w.table, f(9), x}, 73: {w.table, f(7)}, 74: {w.table},
	}
}

// frameless is some object that may stand in a field.
func (w world) frameless() val { return w.closure }

// answers tells a fault, if Do answers anything else.
func answers(t testing.TB, promise string, h Heap, op int, args list, want val, fail api.Fail) {
	t.Helper()
	if v, f := Do(h, op, args); v != want || f != fail {
		t.Errorf("%s: Do(%d, %v): %v, %v, want %v, %v", promise, op, args, v, f, want, fail)
	}
}

// makes tells a fault, if Do fails; else it is what Do makes.
func makes(t testing.TB, promise string, h Heap, op int, args ...val) val {
	t.Helper()
	v, f := Do(h, op, args)
	if f != fine || v.Kind != api.ValRef {
		t.Fatalf("%s: Do(%d, %v): %v, %v", promise, op, args, v, f)
	}
	return v
}

// needed tells a fault, if Needs answers anything else.
func needed(t testing.TB, promise string, h Heap, op int, args list, fail api.Fail, want ...int) {
	t.Helper()
	if sizes, f := Needs(h, op, args); !slices.Equal(sizes, want) || f != fail {
		t.Errorf("%s: Needs(%d, %v): %v, %v, want %v, %v", promise, op, args, sizes, f, want, fail)
	}
}

// whole is all that a heap has.
func whole(h Heap) any {
	switch h := h.(type) {
	case *table.Heap:
		return h.Dump()
	case *graph.Heap:
		g, _ := h.Graph(nil)
		return g
	case *spy:
		return whole(h.heap)
	}
	return nil
}

// idle tells a fault, if a call turns anything in the heap.
func idle(t testing.TB, promise string, h Heap, call func()) {
	t.Helper()
	old := whole(h)
	call()
	if !reflect.DeepEqual(old, whole(h)) {
		t.Errorf("%s: the heap has changed", promise)
	}
}

// spy is a heap that notes its calls, and answers a fault to one of them: the call number at, from 0 on. Beside the fault it answers what is to be left out.
type spy struct {
	heap  Heap
	calls []string
	at    int
	fault api.Fault
}

// watch notes the calls of a heap that answers as ever.
func watch(h Heap) *spy { return &spy{heap: h, at: -1} }

func (s *spy) note(name string, args ...any) bool {
	s.calls = append(s.calls, fmt.Sprint(append([]any{name}, args...)...))
	return len(s.calls)-1 == s.at
}

func (s *spy) Make(kind, n, tag int) (val, api.Fault) {
	if s.note("Make", kind, n, tag) {
		return fixed(99), s.fault
	}
	return s.heap.Make(kind, n, tag)
}

func (s *spy) Open(v val) (api.Block, api.Fault) {
	if s.note("Open", v) {
		b, _ := s.heap.Open(v)
		return b, s.fault
	}
	return s.heap.Open(v)
}

func (s *spy) Get(v val, i int) (val, api.Fault) {
	if s.note("Get", v, i) {
		return fixed(99), s.fault
	}
	return s.heap.Get(v, i)
}

func (s *spy) Set(v val, i int, x val) api.Fault {
	if s.note("Set", v, i, x) {
		return s.fault
	}
	return s.heap.Set(v, i, x)
}

func (s *spy) Raw(v val, i int) (int, api.Fault) {
	if s.note("Raw", v, i) {
		return 99, s.fault
	}
	return s.heap.Raw(v, i)
}

func (s *spy) SetRaw(v val, i, x int) api.Fault {
	if s.note("SetRaw", v, i, x) {
		return s.fault
	}
	return s.heap.SetRaw(v, i, x)
}

func (s *spy) MakeText(b []byte) (val, api.Fault) {
	s.note("MakeText", b)
	return s.heap.MakeText(b)
}

func (s *spy) Text(v val) ([]byte, api.Fault) {
	if s.note("Text", v) {
		return []byte("ninety-nine"), s.fault
	}
	return s.heap.Text(v)
}

func (s *spy) MakeTable() (val, api.Fault) {
	if s.note("MakeTable") {
		return fixed(99), s.fault
	}
	return s.heap.MakeTable()
}

func (s *spy) TableGet(t, k val) (val, bool, api.Fault) {
	if s.note("TableGet", t, k) {
		return fixed(99), true, s.fault
	}
	return s.heap.TableGet(t, k)
}

func (s *spy) TablePut(t, k, v val) api.Fault {
	if s.note("TablePut", t, k, v) {
		return s.fault
	}
	return s.heap.TablePut(t, k, v)
}

func (s *spy) TableDelete(t, k val) (bool, api.Fault) {
	if s.note("TableDelete", t, k) {
		return true, s.fault
	}
	return s.heap.TableDelete(t, k)
}

func (s *spy) TableCount(t val) (int, api.Fault) {
	if s.note("TableCount", t) {
		return 99, s.fault
	}
	return s.heap.TableCount(t)
}

func (s *spy) PutNeeds(t, k val) ([]int, api.Fault) {
	if s.note("PutNeeds", t, k) {
		return []int{99}, s.fault
	}
	return s.heap.PutNeeds(t, k)
}

func (s *spy) Fits(sizes ...int) bool {
	s.note("Fits", sizes)
	return s.heap.Fits(sizes...)
}

func (s *spy) Node(v val) (api.Node, api.Fault) {
	s.note("Node", v)
	return s.heap.Node(v)
}
