package prim

import (
	"math"
	"math/rand"
	"slices"
	"testing"

	"hearth/api"
	"hearth/audit"
	"hearth/graph"
	"hearth/table"
)

// The chapter's words as plainly as they stand, over numbered things, to hold the package against over both sorts of heaps, which are held against each other besides.

// thing is an object.
type thing struct {
	kind    int
	words   list
	text    string
	bits    int
	entries map[val]val
}

// plain is a heap of things.
type plain struct{ things []*thing } // the thing number n at n - 1

func (m *plain) at(v val) *thing {
	if v.Kind != 2 || v.N < 1 || v.N > len(m.things) {
		return nil
	}
	return m.things[v.N-1]
}

func (m *plain) add(x thing) val {
	m.things = append(m.things, &x)
	return ref(len(m.things))
}

// may tells whether a value may stand in a field, or be a key. (All are values here.)
func (m *plain) may(v val) bool {
	return v.Kind != 2 || m.at(v) != nil && m.at(v).kind <= 10
}

// set sets a word, if the value may stand there.
func (m *plain) set(v val, i int, x val) (val, api.Fail) {
	if !m.may(x) {
		return val{}, failure(33)
	}
	m.at(v).words[i] = x
	return nought(), fine
}

// build makes a thing of these words; it is there, also where one of them may not be.
func (m *plain) build(kind int, words ...val) (val, api.Fail) {
	v := m.add(thing{kind: kind, words: slices.Repeat(list{nought()}, len(words))})
	for i, x := range words {
		if _, fail := m.set(v, i, x); fail != fine {
			return val{}, fail
		}
	}
	return v, fine
}

// typed is P2102's last part.
func (m *plain) typed(op int, args list) api.Fail {
	for i, want := range types()[op] {
		have := []int{1: 20, 2: 0, 3: 21, 4: 22}[args[i].Kind]
		if args[i].Kind == 2 && want != 0 && want < 20 {
			if m.at(args[i]) == nil {
				return failure(30)
			}
			have = m.at(args[i]).kind
		}
		if want != 0 && have != want {
			return failureN(80, i+1)
		}
	}
	return fine
}

func truthOf(b bool) val {
	if b {
		return yes()
	}
	return no()
}

// wrapped is a number brought to 61 bits.
func wrapped(n int) val { return fixed(n << 3 >> 3) }

// do is P2103.
func (m *plain) do(op int, args list) (val, api.Fail) {
	if fail := m.typed(op, args); fail != fine {
		return val{}, fail
	}
	a := append(slices.Clone(args), val{}, val{}, val{})
	x, y := m.at(a[0]), m.at(a[1])
	switch op {
	case 30:
		return m.build(1, a[0], a[1])
	case 35:
		return m.build(2, a[0])
	case 63:
		return m.build(8, a[0], a[1])
	case 67:
		return m.build(9, a[0], a[1])
	case 31, 36, 64, 68:
		return x.words[0], fine
	case 32, 65, 69:
		return x.words[1], fine
	case 33, 37:
		return m.set(a[0], 0, a[1])
	case 34, 66:
		return m.set(a[0], 1, a[1])
	case 45:
		return truthOf(a[0] == a[1]), fine
	case 46:
		switch {
		case a[0].Kind != 2:
			return fixed(map[int]int{1: 20, 3: 21, 4: 22}[a[0].Kind]), fine
		case x == nil:
			return val{}, failure(30)
		}
		return fixed(x.kind), fine
	case 47:
		return truthOf(a[0] == no()), fine
	case 61:
		return fixed(a[0].N), fine
	case 62:
		if a[0].N < 0 || a[0].N > 0x10FFFF || a[0].N >= 0xD800 && a[0].N <= 0xDFFF {
			return val{}, failureN(85, a[0].N)
		}
		return letter(a[0].N), fine
	}
	switch {
	case op <= 44:
		return m.rows(op, a, x, y)
	case op <= 53:
		return m.sums(op, a[0].N, a[1].N)
	case op <= 60:
		return m.floats(op, a[0].N, x, y)
	}
	return m.tables(op, a, x)
}

// rows is P2103 of vectors and texts.
func (m *plain) rows(op int, a list, x, y *thing) (val, api.Fail) {
	n, i := a[0].N, a[1].N
	switch op {
	case 38:
		if n < 0 || n > 1023 {
			return val{}, failureN(85, n)
		}
		return m.build(3, slices.Repeat(a[1:2], n)...)
	case 39, 40:
		if i < 0 || i >= len(x.words) {
			return val{}, failureN(81, i)
		}
		if op == 40 {
			return m.set(a[0], i, a[2])
		}
		return x.words[i], fine
	case 41:
		return fixed(len(x.words)), fine
	case 42:
		return fixed(len(x.text)), fine
	case 43:
		if i < 0 || i >= len(x.text) {
			return val{}, failureN(81, i)
		}
		return fixed(int(x.text[i])), fine
	}
	return truthOf(x.text == y.text), fine
}

// sums is P2103 of fixnums.
func (m *plain) sums(op, a, b int) (val, api.Fail) {
	switch op {
	case 48:
		return wrapped(a + b), fine
	case 49:
		return wrapped(a - b), fine
	case 50:
		return wrapped(a * b), fine
	case 53:
		return truthOf(a < b), fine
	}
	if b == 0 {
		return val{}, failure(82)
	}
	if op == 51 {
		return wrapped(a / b), fine
	}
	return fixed(a % b), fine
}

// floats is P2103 of floats.
func (m *plain) floats(op, n int, x, y *thing) (val, api.Fail) {
	if op == 59 {
		return m.add(thing{kind: 5, bits: bits(float64(n))}), fine
	}
	a := math.Float64frombits(uint64(x.bits))
	if op == 60 {
		if !(a >= -1<<60 && a < 1<<60) {
			return val{}, failure(85)
		}
		return fixed(int(a)), fine
	}
	b := math.Float64frombits(uint64(y.bits))
	if op == 58 {
		return truthOf(a < b), fine
	}
	sum := []float64{a + b, a - b, a * b, a / b}[op-54]
	return m.add(thing{kind: 5, bits: toldBits(sum)}), fine
}

// tables is P2103 of tables.
func (m *plain) tables(op int, a list, x *thing) (val, api.Fail) {
	switch op {
	case 70:
		return m.add(thing{kind: 10, entries: map[val]val{}}), fine
	case 74:
		return fixed(len(x.entries)), fine
	}
	if !m.may(a[1]) || op == 72 && !m.may(a[2]) {
		return val{}, failure(33)
	}
	switch op {
	case 71:
		if v, there := x.entries[a[1]]; there {
			return v, fine
		}
		return a[2], fine
	case 72:
		x.entries[a[1]] = a[2]
	case 73:
		delete(x.entries, a[1])
	}
	return nought(), fine
}

// trio is one heap three times: plain things, an arena, a graph, in which one number means one object.
type trio struct {
	plain *plain
	arena *table.Heap
	graph *graph.Heap
	set   Set
}

// place is a value in the arena.
func (x *trio) place(v val) val {
	if v.Kind != 2 {
		return v
	}
	at, there := x.arena.Find(v.N)
	if !there {
		return ref(api.MostFix - v.N)
	}
	return ref(at)
}

// number is a value of the arena as the others have it.
func (x *trio) number(v val) val {
	if v.Kind != 2 {
		return v
	}
	b, there := x.arena.Block(v.N)
	if !there {
		return ref(api.MostFix - v.N)
	}
	return ref(b.Serial)
}

// step does an instruction three times, and tells a fault where they are not alike.
func (x *trio) step(t *testing.T, op int, args list) {
	t.Helper()
	there := make(list, len(args))
	for i, v := range args {
		there[i] = x.place(v)
	}
	_, needs1 := x.set.Needs(x.arena, op, there)
	sizes, needs2 := x.set.Needs(x.graph, op, args)
	if op == 72 && len(sizes) > 0 || needs1 != needs2 {
		t.Fatalf("P2107: Needs(%d, %v): %v, %v, %v", op, args, needs1, needs2, sizes)
	}
	want, wantFail := x.plain.do(op, args)
	v, fail := x.set.Do(x.arena, op, there)
	if v = x.number(v); v != want || fail != wantFail {
		t.Fatalf("P2103: in the arena: Do(%d, %v): %v, %v, want %v, %v", op, args, v, fail, want, wantFail)
	}
	v, fail = x.set.Do(x.graph, op, args)
	if v != want || fail != wantFail {
		t.Fatalf("P2103: in the graph: Do(%d, %v): %v, %v, want %v, %v", op, args, v, fail, want, wantFail)
	}
	if needs1 != fine && needs1 != fail {
		t.Fatalf("P2105: Needs(%d, %v): %v, Do: %v", op, args, needs1, fail)
	}
}

// alike tells a fault, if the heaps are not one.
func (x *trio) alike(t *testing.T) {
	t.Helper()
	a, fault1 := x.arena.Graph(nil)
	b, fault2 := x.graph.Graph(nil)
	if fault1.Err != api.OK || fault2.Err != api.OK || !graph.Equal(a, b) {
		t.Fatalf("P2107: the graphs are not one: %v, %v", fault1, fault2)
	}
	if len(b.Nodes) != len(x.plain.things) {
		t.Fatalf("P2107: %d nodes, want %d", len(b.Nodes), len(x.plain.things))
	}
	for i, n := range b.Nodes {
		y := x.plain.things[i]
		if n.Kind != y.kind || y.kind <= 3 && !slices.Equal(n.Fields, y.words) || (y.kind == 8 || y.kind == 9) && !slices.Equal(n.Fields, y.words) {
			t.Fatalf("P2103: node %v, want %v", n, y)
		}
		if y.kind == 5 && n.Raw[0] != y.bits || y.kind == 4 && len(n.Raw) != len(y.text) || len(n.Entries) != len(y.entries) {
			t.Fatalf("P2103: node %v, want %v", n, y)
		}
		for _, e := range n.Entries {
			if y.entries[e.Key] != e.Value {
				t.Fatalf("P2103: node %v, want %v", n, y)
			}
		}
	}
	if found := audit.Check(x.arena.Dump()); len(found) > 0 {
		t.Fatalf("P2107: the arena is wrong: %v", found)
	}
}

// trioOf is a trio with objects of the kinds that no instruction makes.
func trioOf(t *testing.T) *trio {
	x := &trio{&plain{}, arena(t, 1000), graph.New(), All()}
	for _, h := range []Heap{x.arena, x.graph} {
		text(t, h, "a text")
		text(t, h, "a text")
		text(t, h, "")
		made(t, h, 6, 0, 0)
		made(t, h, 7, 0, 0)
		made(t, h, 11, 1, 0)
	}
	for _, s := range []string{"a text", "a text", ""} {
		x.plain.add(thing{kind: 4, text: s})
	}
	for _, kind := range []int{6, 7, 11} {
		x.plain.add(thing{kind: kind})
	}
	return x
}

// pick is some value: often a thing of a kind that is asked for.
func (x *trio) pick(r *rand.Rand, want int) val {
	switch way := r.Intn(20); {
	case way == 0:
		return code(r.Intn(6))
	case way == 1:
		n := 1 + r.Intn(len(x.plain.things)+2)
		if n > len(x.plain.things) {
			n += 1 << 20 // the next numbers are those of what is made while the instruction is done
		}
		return ref(n)
	case way == 2:
		return fixed(r.Intn(5) - 2)
	case want == 20 && way < 6:
		return fixed([]int{api.MostFix, api.LeastFix, -1, 0, 1023, 1024, r.Int() >> 3}[r.Intn(7)])
	case want == 20:
		return fixed(r.Intn(12))
	case want == 22:
		return letter(r.Intn(0xD800))
	case want == 0 && way < 10:
		return fixed(r.Intn(30))
	}
	var fit list
	for i, y := range x.plain.things {
		if y.kind == want || want == 0 {
			fit = append(fit, ref(i+1))
		}
	}
	if len(fit) == 0 {
		return null()
	}
	if r.Intn(2) == 0 { // the last ones, so that much is done to few
		fit = fit[max(0, len(fit)-3):]
	}
	return fit[r.Intn(len(fit))]
}

func TestP2107(t *testing.T) {
	met := map[int]int{} // how often each instruction had the right types
	for seed := range 60 {
		r := rand.New(rand.NewSource(int64(seed)))
		x := trioOf(t)
		for _, op := range []int{30, 63, 67, 59, 70} {
			x.step(t, op, list{fixed(1), ref(1)}[:Takes(op)])
		}
		for n := range 400 {
			op := 30 + r.Intn(45)
			if n%3 == 0 {
				op = 72
			}
			args := list{}
			for _, want := range types()[op] {
				args = append(args, x.pick(r, want))
			}
			if x.plain.typed(op, args) == fine {
				met[op]++
			}
			x.step(t, op, args)
			if n%20 == 0 {
				x.alike(t)
			}
		}
		x.alike(t)
	}
	for _, op := range all() {
		if met[op] < 10 {
			t.Errorf("the test does %d %d times alone", op, met[op])
		}
	}
}
