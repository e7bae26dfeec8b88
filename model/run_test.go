package model

import (
	"math/rand"
	"strconv"
	"testing"

	"hearth/api"
)

// The chapter's examples.
func TestExamples(t *testing.T) {
	row, weak := bytesOf(t, five()), bytesOf(t, weakly())
	for i, x := range []struct {
		row         []byte
		fuel        int
		collections []int
		memory      int
		want        api.Outcome
	}{
		{nil, 9, nil, -1, refusal(api.ErrEnd, 0, 0)},
		{nil, -1, nil, -1, refusal(api.ErrArg, 0, 0)},
		{row, -1, nil, -1, refusal(api.ErrArg, 0, 0)},
		{row, 9, []int{1, 1, 5}, -1, done("5", 2, 1, 1)},
		{row, 9, nil, 1, ended(api.OutOfMemory, 1)},
		{weak, 9, []int{5}, -1, done("#!broken", 7, 5)},
		{weak, 9, nil, -1, done("(1 . 2)", 7)},
		{bytesOf(t, looping()), 7, nil, 7, ended(api.OutOfFuel, 7)},
	} {
		tells(t, "P2403: example "+strconv.Itoa(i), Run(x.row, x.fuel, x.collections, x.memory), x.want)
	}
}

// The examples of DOC.md that have no arena.
func TestExamplesOfTheDocument(t *testing.T) {
	shown := done("(1 . 2)", 7)
	shown.Log = []string{"(1 . 2)"}
	for i, x := range []struct {
		p    api.Program
		want api.Outcome
	}{
		{only(op(api.OpFix, 1), op(api.OpFix, 2), op(api.OpCons), op(api.OpDup), op(api.OpOut), op(api.OpPop), op(api.OpHalt)), shown},
		{only(op(api.OpFix, api.MostFix), op(api.OpFix, 1), op(api.OpAdd), op(api.OpReturn)), done("-1152921504606846976", 4)},
		{only(op(api.OpTable), op(api.OpDup), op(api.OpFix, 7), op(api.OpFix, 8), op(api.OpTablePut), op(api.OpPop), op(api.OpDup), op(api.OpFix, 7), op(api.OpImm, 1), op(api.OpTableGet), op(api.OpReturn)), done("8", 11)},
		{program(fn(0, 0, 0, op(api.OpGlobal), op(api.OpReturn))), failure(api.ErrUnbound, 0, 1)},
		{only(op(api.OpFix, 1), op(api.OpFix), op(api.OpQuot), op(api.OpReturn)), failure(api.ErrDivide, 0, 3)},
		{longer(), ended(api.OutOfFuel, 100)}, // memory never ends by itself
	} {
		tells(t, "example "+strconv.Itoa(i), Run(bytesOf(t, x.p), 100, nil, -1), x.want)
	}
}

// The fuel: what is refused, ahead of all that is wrong in the program; where a run ends by it.
func TestP2403Fuel(t *testing.T) {
	row := bytesOf(t, five())
	for _, fuel := range []int{-1, -9, least, api.MaxFuel + 1, most} {
		for _, program := range [][]byte{row, nil, make([]byte, api.MaxProgram+1)} {
			tells(t, "P2403", Run(program, fuel, []int{0}, 0), refusal(api.ErrArg, 0, 0))
		}
	}
	tells(t, "P2403", Run(row, 0, nil, -1), ended(api.OutOfFuel, 0))
	tells(t, "P2403", Run(row, 1, nil, -1), ended(api.OutOfFuel, 1))
	for _, fuel := range []int{2, 3, api.MaxFuel - 1, api.MaxFuel} { // the last step needs no more
		tells(t, "P2403", Run(row, fuel, nil, -1), done("5", 2))
	}
	for fuel := range 40 { // ahead of the collections and of the memory of its boundary
		tells(t, "P2403", Run(bytesOf(t, longer()), fuel, []int{fuel, fuel + 1}, fuel), ended(api.OutOfFuel, fuel))
	}
}

// The collections: as many at each boundary as the list has of it, in whatever order it stands.
func TestP2403Collections(t *testing.T) {
	row := bytesOf(t, looping())
	for i, x := range []struct{ list, want []int }{
		{nil, nil},
		{[]int{}, nil},
		{[]int{0}, []int{0}},
		{[]int{5}, []int{5}},
		{[]int{6, 7, most}, nil}, // there is no such boundary, or the fuel comes first
		{[]int{-1, least}, nil},
		{[]int{4, 1, 4, 4, 1}, []int{1, 1, 4, 4, 4}},
		{[]int{9, 5, 4, 3, 2, 1, 0, 0}, []int{0, 0, 1, 2, 3, 4, 5}},
	} {
		tells(t, "P2403: list "+strconv.Itoa(i), Run(row, 6, x.list, -1), ended(api.OutOfFuel, 6, x.want...))
	}
	tells(t, "P2403: behind the end there is no boundary", Run(bytesOf(t, five()), 9, []int{1, 2, 3}, 2), done("5", 2, 1))
	failing := bytesOf(t, only(op(api.OpFix, 3), op(api.OpError)))
	tells(t, "P2403: ahead of the step that fails", Run(failing, 9, []int{1, 2, 0}, -1), failure(api.ErrUser, 3, 2, 0, 1))
	for at, want := range []string{"(1 . 2)", "(1 . 2)", "(1 . 2)", "(1 . 2)", "(1 . 2)", "#!broken", "(1 . 2)"} { // ahead of its boundary's instruction
		tells(t, "P2403", Run(bytesOf(t, weakly()), 99, []int{at}, -1), done(want, 7, at))
	}
}

// The memory: behind the collections of its boundary, ahead of its instruction.
func TestP2403Memory(t *testing.T) {
	row := bytesOf(t, longer())
	for _, memory := range []int{0, 1, 2, 17, 39} {
		tells(t, "P2403", Run(row, 40, []int{memory, memory + 1, 0, memory}, memory), ended(api.OutOfMemory, memory, 0, memory, memory))
	}
	for _, memory := range []int{-1, -7, least, 41, most} {
		tells(t, "P2403", Run(row, 40, nil, memory), ended(api.OutOfFuel, 40))
	}
	tells(t, "P2403: the step that ends the run is not made", Run(bytesOf(t, five()), 9, nil, 1), ended(api.OutOfMemory, 1))
	tells(t, "P2403: behind the end", Run(bytesOf(t, five()), 9, nil, 2), done("5", 2))
}

// plainRun is Run, by its words alone.
func plainRun(t *testing.T, p api.Program, fuel int, collections []int, memory int) api.Outcome {
	b := belowOf(t, p)
	for s := 0; b.run.Outcome().End == api.Running; s++ {
		if s == fuel {
			b.run.Stop(api.OutOfFuel, 0)
			break
		}
		for _, c := range collections {
			if c == s {
				if _, fault := b.heap.Collect(b.run.Roots()); fault != fine {
					t.Fatalf("the run of the test has no roots: %v", fault)
				}
				b.run.Collected()
			}
		}
		if s == memory {
			b.run.Stop(api.OutOfMemory, 0)
			break
		}
		b.run.Step()
	}
	return b.run.Outcome()
}

// Programs of all sorts, with any fuel, collections and memory.
func TestP2403Random(t *testing.T) {
	ends := map[int]int{}
	for seed := range 300 {
		r := rand.New(rand.NewSource(int64(seed)))
		p := grown(t, seed, seed%3 > 0)
		fuel := r.Intn(600)
		memory := []int{-1, r.Intn(600), r.Intn(100)}[r.Intn(3)]
		list := someNumbers(r, 30, fuel)
		want := plainRun(t, p, fuel, list, memory)
		tells(t, "P2403: seed "+strconv.Itoa(seed), Run(bytesOf(t, p), fuel, list, memory), want)
		tells(t, "W9: once more", Run(bytesOf(t, p), fuel, list, memory), want)
		ends[want.End]++
	}
	if ends[api.Done] < 10 || ends[api.Failed] < 10 || ends[api.OutOfFuel] < 10 || ends[api.OutOfMemory] < 10 {
		t.Errorf("the test's runs end %v", ends)
	}
}

// Continuations are called again and again, from wherever they are, with the locals and the stack as they were.
func TestW8(t *testing.T) {
	p := program(
		fn(0, 1, 0,
			op(api.OpFix), op(api.OpSetGlobal, 1), op(api.OpFix, 5), op(api.OpSetLocal),
			op(api.OpFix, 100), op(api.OpClosure, 1), op(api.OpCallCC), // 6
			op(api.OpOut), op(api.OpPop),
			op(api.OpLocal), op(api.OpOut), op(api.OpPop),
			op(api.OpFix, 77), op(api.OpSetLocal),
			op(api.OpGlobal, 1), op(api.OpFix, 1), op(api.OpAdd), op(api.OpDup), op(api.OpSetGlobal, 1),
			op(api.OpFix, 4), op(api.OpLess), op(api.OpBranch, 26),
			op(api.OpGlobal), op(api.OpGlobal, 1), op(api.OpCall, 1), op(api.OpPop), // 25
			op(api.OpReturn)),
		fn(1, 1, 0, op(api.OpLocal), op(api.OpSetGlobal), op(api.OpFix, 9), op(api.OpReturn)))
	for _, every := range []int{500, 1, 3} {
		var list []int
		for i := 0; i < 200; i += every {
			list = append(list, i)
		}
		o := Run(bytesOf(t, p), 9999, list, -1)
		want := done("100", o.Steps, o.Collections...)
		want.Log = []string{"9", "5", "1", "5", "2", "5", "3", "5"}
		tells(t, "W8: with a collection at each "+strconv.Itoa(every), o, want)
	}
}

// A list of many pairs, and a run of many frames, are collected and shown like short ones.
func TestDeep(t *testing.T) {
	const pairs = 300000
	p := only(
		op(api.OpFix), op(api.OpImm), op(api.OpSetLocal),
		op(api.OpFix, 1), op(api.OpAdd), op(api.OpDup), op(api.OpLocal), op(api.OpCons), op(api.OpSetLocal), // 3
		op(api.OpDup), op(api.OpFix, pairs), op(api.OpLess), op(api.OpBranch, 14), op(api.OpJump, 3),
		op(api.OpPop), op(api.OpLocal), op(api.OpReturn)) // 14
	m := modelOf(t, p)
	for m.Steps() < 11*pairs && m.Step() {
	}
	if r := m.Collect(); r.Kept < pairs-2 || r.Freed != 0 {
		t.Errorf("rule 7: the report is %+v", r)
	}
	for m.Step() {
	}
	if o := m.Outcome(); o.End != api.Done || o.Value != "#<large>" {
		t.Errorf("rule 7: %d behind %d steps: %.40s", o.End, o.Steps, o.Value)
	}
	deep := program(
		fn(0, 0, 0, op(api.OpClosure, 1), op(api.OpFix, 50000), op(api.OpCall, 1), op(api.OpReturn)),
		fn(1, 1, 0, op(api.OpLocal), op(api.OpFix, 1), op(api.OpLess), op(api.OpBranch, 6), op(api.OpLocal), op(api.OpReturn),
			op(api.OpClosure, 1), op(api.OpLocal), op(api.OpFix, 1), op(api.OpSub), op(api.OpCall, 1), op(api.OpReturn)))
	if o := Run(bytesOf(t, deep), api.MaxFuel, []int{400000}, -1); o.End != api.Done || o.Value != "0" || len(o.Collections) != 1 {
		t.Errorf("rule 7: %d behind %d steps: %s, %d collections", o.End, o.Steps, o.Value, len(o.Collections))
	}
}
