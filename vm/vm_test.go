package vm

import (
	"reflect"
	"slices"
	"strconv"
	"testing"

	"hearth/api"
	"hearth/audit"
	"hearth/graph"
	"hearth/table"
)

// The chapter's examples.
func TestExamples(t *testing.T) {
	list := scripted(t, longer(), 3, 1000)
	var often []int
	for s := 82; s < 1000; s += 80 {
		often = append(often, s)
	}
	for i, x := range []struct {
		s    api.Script
		want api.Outcome
	}{
		{api.Script{Pages: 2, Fuel: 9}, refusal(api.ErrEnd, 0, 0)},
		{scripted(t, five(), 0, 9), refusal(api.ErrArg, 0, 0)},
		{scripted(t, five(), 4097, 9), refusal(api.ErrArg, 0, 0)},
		{scripted(t, five(), 2, -1), refusal(api.ErrArg, 0, 0)},
		{scripted(t, five(), 1, 9), ended(api.OutOfMemory, 0)},
		{scripted(t, five(), 2, 9), done("5", 2)},
		{scripted(t, five(), 2, 1), ended(api.OutOfFuel, 1)},
		{scripted(t, five(), 2, 0), ended(api.OutOfFuel, 0)},
		{forced(scripted(t, five(), 2, 9), 1, 0, 1, 7), done("5", 2, 0, 1)},
		{forced(scripted(t, weakly(), 3, 9), 5), done("#!broken", 7, 5)},
		{scripted(t, garbage(), 3, 1000), ended(api.OutOfFuel, 1000, often...)},
		{list, ended(api.OutOfMemory, 84, 84)},
		{poked(list, api.Poke{Step: 84, At: 128}), corrupt(128, 84)},
	} {
		tells(t, "example "+strconv.Itoa(i), Run(x.s), x.want)
	}
}

// The examples of DOC.md.
func TestExamplesOfTheDocument(t *testing.T) {
	shown := only(op(api.OpFix, 1), op(api.OpFix, 2), op(api.OpCons), op(api.OpDup), op(api.OpOut), op(api.OpPop), op(api.OpHalt))
	logged := done("(1 . 2)", 7)
	logged.Log = []string{"(1 . 2)"}
	opened := only(op(api.OpFix, 1), op(api.OpBox), op(api.OpUnbox), op(api.OpReturn))
	for i, x := range []struct {
		s    api.Script
		want api.Outcome
	}{
		{scripted(t, five(), 64, 100), done("5", 2)},
		{scripted(t, shown, 64, 100), logged},
		{scripted(t, only(op(api.OpFix, api.MostFix), op(api.OpFix, 1), op(api.OpAdd), op(api.OpReturn)), 64, 100), done("-1152921504606846976", 4)},
		{scripted(t, only(op(api.OpTable), op(api.OpDup), op(api.OpFix, 7), op(api.OpFix, 8), op(api.OpTablePut), op(api.OpPop), op(api.OpDup), op(api.OpFix, 7), op(api.OpImm, 1), op(api.OpTableGet), op(api.OpReturn)), 64, 100), done("8", 11)},
		{forced(scripted(t, weakly(), 64, 100), 5), done("#!broken", 7, 5)},
		{scripted(t, weakly(), 64, 100), done("(1 . 2)", 7)},
		{scripted(t, api.Program{Globals: 1, Funcs: []api.Func{fn(0, 0, 0, op(api.OpGlobal), op(api.OpReturn))}}, 64, 100), failure(api.ErrUnbound, 0, 1)},
		{scripted(t, only(op(api.OpFix, 1), op(api.OpFix), op(api.OpQuot), op(api.OpReturn)), 64, 100), failure(api.ErrDivide, 0, 3)},
		{poked(scripted(t, opened, 64, 100), api.Poke{Step: 2, At: 4}), corrupt(4, 3)},
		{scripted(t, longer(), 3, 100), ended(api.OutOfMemory, 84, 84)},
		{scripted(t, five(), 64, 0), ended(api.OutOfFuel, 0)},
	} {
		tells(t, "example "+strconv.Itoa(i), Run(x.s), x.want)
	}
}

// What is refused, and what is told of it where several things are wrong.
func TestP2301Rejected(t *testing.T) {
	long, short := make([]int, api.MaxForce+1), make([]int, api.MaxForce)
	pokes, fewer := make([]api.Poke, api.MaxPokes+1), make([]api.Poke, api.MaxPokes)
	good := scripted(t, five(), 2, 9).Program
	under := scripted(t, program(fn(0, 0, 0, op(api.OpFix), op(api.OpHalt)), fn(0, 0, 0, op(api.OpFix), op(api.OpHalt)), fn(0, 0, 0, op(api.OpFix), op(api.OpDup), op(api.OpPop), op(api.OpPop), op(api.OpPop), op(api.OpHalt))), 2, 9).Program
	main := scripted(t, program(fn(1, 1, 0, op(api.OpPop))), 2, 9).Program
	for i, x := range []struct {
		s    api.Script
		want api.Outcome
	}{
		{api.Script{Program: good, Pages: 0, Fuel: 9}, refusal(api.ErrArg, 0, 0)},
		{api.Script{Program: good, Pages: least, Fuel: 9}, refusal(api.ErrArg, 0, 0)},
		{api.Script{Program: good, Pages: -1, Fuel: 9}, refusal(api.ErrArg, 0, 0)},
		{api.Script{Program: good, Pages: api.MaxPages + 1, Fuel: 9}, refusal(api.ErrArg, 0, 0)},
		{api.Script{Program: good, Pages: most, Fuel: 9}, refusal(api.ErrArg, 0, 0)},
		{api.Script{Program: good, Pages: 2, Fuel: -1}, refusal(api.ErrArg, 0, 0)},
		{api.Script{Program: good, Pages: 2, Fuel: least}, refusal(api.ErrArg, 0, 0)},
		{api.Script{Program: good, Pages: 2, Fuel: api.MaxFuel + 1}, refusal(api.ErrArg, 0, 0)},
		{api.Script{Program: good, Pages: 2, Fuel: most}, refusal(api.ErrArg, 0, 0)},
		{api.Script{Program: good, Pages: 2, Fuel: 9, Force: long}, refusal(api.ErrLong, 0, 0)},
		{api.Script{Program: good, Pages: 2, Fuel: 9, Pokes: pokes}, refusal(api.ErrLong, 0, 0)},
		{api.Script{Pages: 0, Fuel: 9, Force: long, Pokes: pokes}, refusal(api.ErrArg, 0, 0)}, // the order of the errors
		{api.Script{Pages: 2, Fuel: -1, Force: long}, refusal(api.ErrArg, 0, 0)},
		{api.Script{Pages: 2, Fuel: 9, Force: long}, refusal(api.ErrLong, 0, 0)},
		{api.Script{Program: under, Pages: 2, Fuel: 9, Pokes: pokes}, refusal(api.ErrLong, 0, 0)},
		{api.Script{Program: good[:7], Pages: 2, Fuel: 9}, refusal(api.ErrEnd, 7, 0)},
		{api.Script{Program: append(slices.Clone(good), 0), Pages: 2, Fuel: 9}, refusal(api.ErrBytes, 14, 0)},
		{api.Script{Program: append(slices.Clone(under), 0), Pages: 2, Fuel: 9}, refusal(api.ErrBytes, len(under), 0)},
		{api.Script{Program: make([]byte, api.MaxProgram+1), Pages: 2, Fuel: 9}, refusal(api.ErrLong, 0, 0)},
		{api.Script{Program: make([]byte, api.MaxProgram), Pages: 2, Fuel: 9}, refusal(api.ErrBytes, 0, 0)},
		{api.Script{Program: under, Pages: 2, Fuel: 9}, refusal(api.ErrUnder, 2, 4)},
		{api.Script{Program: main, Pages: 1, Fuel: 9}, refusal(api.ErrMain, 0, 0)}, // ahead of its room
		{api.Script{}, refusal(api.ErrArg, 0, 0)},
	} {
		what := "P2301: script " + strconv.Itoa(i)
		tells(t, what, Run(x.s), x.want)
		v := New(x.s)
		tells(t, what, v.Outcome(), x.want)
		goes(t, what, v, api.Ended, api.Ended)
		g, fault := v.Graph()
		if len(g.Nodes)+len(g.Roots)+len(v.Places()) > 0 || fault != fine || !reflect.DeepEqual(v.Dump(), api.Dump{}) || v.Report() != (api.Report{}) {
			t.Errorf("P2303: script %d: there is a heap: %v, %v, %v, %v", i, g, fault, v.Places(), v.Dump())
		}
		tells(t, what, v.Outcome(), x.want)
	}
	for i, s := range []api.Script{ // what is not refused: the limits themselves
		{Program: good, Pages: api.MaxPages, Fuel: 9},
		{Program: good, Pages: 2, Fuel: api.MaxFuel},
		{Program: good, Pages: 2, Fuel: 9, Pokes: fewer[:0], Force: long[:0]},
	} {
		tells(t, "P2301: limit "+strconv.Itoa(i), Run(s), done("5", 2))
	}
	for i := range fewer {
		short[i], fewer[i] = i-5, api.Poke{Step: 1, At: -1 - i}
	}
	tells(t, "P2301: as many as there may be", Run(api.Script{Program: good, Pages: 2, Fuel: 9, Force: short, Pokes: fewer}), done("5", 2, 0, 1))
}

// framed is a program of so many globals, the frame of which has so many slots.
func framed(globals, slots int) api.Program {
	return api.Program{Globals: globals, Funcs: []api.Func{fn(0, slots-1, 0, op(api.OpImm), op(api.OpHalt))}}
}

// The run begins just where its three objects fit.
func TestP2301OutOfMemory(t *testing.T) {
	begins := 0
	for pages := 1; pages <= 5; pages++ {
		empty, _ := table.New(pages)
		for globals := range 65 {
			for _, slots := range []int{1, 2, 3, 11, 12, 27, 28, 58, 59, 60, 65} {
				v := New(scripted(t, framed(globals, slots), pages, 9))
				if fitsPlainly(empty.Dump(), []int{1 + globals, 1, 5 + slots}) {
					begins++
					tells(t, "P2301", v.Outcome(), api.Outcome{})
					goes(t, "P2301", v, api.Executed, api.Executed, api.Ended)
					continue
				}
				g, fault := v.Graph()
				if len(g.Nodes)+len(g.Roots)+len(v.Places()) > 0 || fault != fine || v.Report() != (api.Report{}) || !sameDump(v.Dump(), empty.Dump()) {
					t.Errorf("P2303: the heap is not empty: %v, %v, %v", g, fault, v.Places())
				}
				goes(t, "P2301", v, api.Ended, api.Ended)
				tells(t, "P2301", v.Outcome(), ended(api.OutOfMemory, 0))
			}
		}
	}
	if begins < 500 || begins > 3000 {
		t.Errorf("the test's runs begin %d times", begins)
	}
	for _, fuel := range []int{0, 9} {
		s := forced(scripted(t, five(), 1, fuel), 0)
		s.Pokes = []api.Poke{{Step: 0, At: 3, Word: 9}}
		v := New(s)
		goes(t, "P2301", v, api.Ended)
		tells(t, "P2301: ahead of everything of the boundary 0", v.Outcome(), ended(api.OutOfMemory, 0))
		if v.Dump().Words[3] != 0 {
			t.Errorf("P2301: a corruption of a run that never began")
		}
	}
}

// What a run begins with is machine.New's, whatever comes at the boundary 0.
func TestP2301Begun(t *testing.T) {
	for _, p := range []api.Program{five(), garbage(), longer(), framed(40, 60), framed(0, 1)} {
		s := forced(scripted(t, p, 5, 0), 0)
		s.Pokes = []api.Poke{{Step: 0, At: 0}}
		v := New(s)
		h, m := begun(t, p, 5)
		if !sameDump(v.Dump(), h.Dump()) || !slices.Equal(v.Roots(), m.Roots()) {
			t.Errorf("P2301: the heap is another one")
		}
		tells(t, "P2301", v.Outcome(), api.Outcome{})
		g, fault := v.Graph()
		want, _ := h.Graph(m.Roots())
		if fault != fine || !graph.Equal(g, want) || len(g.Nodes) != 3 || !slices.Equal(g.Roots, list{ref(3), ref(1)}) {
			t.Errorf("P2303: the graph is %v, %v", g, fault)
		}
		placed(t, v, g)
	}
}

// Outcome, Report, Graph, Places and Dump change nothing, however often they are asked.
func TestP2303Asked(t *testing.T) {
	s := forced(scripted(t, grownProgram(t, 1, true), 30, 300), 3, 50, 51, 100)
	asked, quiet := New(s), New(s)
	for {
		for range 2 {
			asked.Outcome()
			asked.Report()
			asked.Graph()
			asked.Places()
			asked.Dump()
		}
		what := quiet.Step()
		goes(t, "P2303", asked, what)
		if !sameDump(asked.Dump(), quiet.Dump()) {
			t.Fatalf("P2303: who is asked goes on otherwise")
		}
		if what == api.Ended {
			break
		}
	}
	tells(t, "P2303", asked.Outcome(), quiet.Outcome())
}

// The report is the last collection's, also behind the run's end.
func TestP2303Report(t *testing.T) {
	v := New(forced(scripted(t, weakly(), 3, 9), 3, 5))
	reports := map[int]api.Report{}
	for v.Step() != api.Ended {
		reports[len(v.Outcome().Collections)] = v.Report()
	}
	want := map[int]api.Report{0: {}, 1: {Kept: 4}, 2: {Kept: 4, Freed: 1, Broken: 1}}
	if !reflect.DeepEqual(reports, want) || v.Report() != want[2] {
		t.Errorf("P2303: the reports are %v, want %v", reports, want)
	}
	keys := only( // a table whose one key dies, an ephemeron likewise
		op(api.OpTable), op(api.OpDup), op(api.OpFix), op(api.OpBox), op(api.OpFix), op(api.OpTablePut), op(api.OpPop),
		op(api.OpFix), op(api.OpBox), op(api.OpFix), op(api.OpEph), op(api.OpCons), op(api.OpHalt))
	v = ahead(t, forced(scripted(t, keys, 9, 99), 12), 12)
	goes(t, "P2303", v, api.Collected, api.Executed, api.Ended)
	if r := v.Report(); r != (api.Report{Kept: 6, Freed: 2, Cleared: 1, Pruned: 1}) {
		t.Errorf("P2303: the report is %+v", r)
	}
}

// A wrong word of the heap is the graph's fault; the others tell what there is.
func TestP2303Corrupt(t *testing.T) {
	s := poked(scripted(t, longer(), 5, 50), api.Poke{Step: 20, At: 129, Word: junk}, api.Poke{Step: 20, At: 133, Word: junk})
	v := ahead(t, s, 20)
	if _, fault := v.Graph(); fault != fine {
		t.Errorf("P2302: the corruption is made ahead of its boundary's event: %v", fault)
	}
	v.Step()
	g, fault := v.Graph()
	if fault != (api.Fault{Err: api.ErrCorrupt, At: 129}) || len(g.Nodes)+len(g.Roots) > 0 {
		t.Errorf("P2303: %v, %v", g, fault)
	}
	if l := v.Places(); len(l) != len(v.Dump().Blocks) || len(l) < 5 {
		t.Errorf("P2303: the places are %v", l)
	}
	if found := audit.Check(v.Dump()); len(found) != 2 {
		t.Errorf("P2303: the audit of the dump finds %v", found)
	}
}

// Places rise by serials, also where the places themselves do not; spines and entries have none.
func TestP2303Places(t *testing.T) {
	p := only(op(api.OpTable), op(api.OpDup), op(api.OpFix, 3), op(api.OpDup), op(api.OpTablePut), op(api.OpPop), op(api.OpFix), op(api.OpBox), op(api.OpCons), op(api.OpHalt))
	v := ahead(t, scripted(t, p, 9, 99), 9)
	places, blocks := v.Places(), v.Dump().Blocks
	if len(places) != 6 || len(blocks) != 8 {
		t.Fatalf("P2303: %v of %v", places, blocks)
	}
	if slices.IsSortedFunc(places, func(a, b api.Place) int { return a.At - b.At }) {
		t.Errorf("the test's places rise: %v", places)
	}
	for i, x := range places {
		if x.Serial != i+1 {
			t.Errorf("P2303: %v", places)
		}
	}
	g, _ := v.Graph()
	placed(t, v, g)
}

// Run is New, and Step until it tells Ended.
func TestP2304(t *testing.T) {
	for _, s := range []api.Script{
		{}, scripted(t, five(), 1, 9), scripted(t, five(), 2, 1), forced(scripted(t, garbage(), 3, 500), 1, 2, 3), scripted(t, longer(), 7, 5000),
		poked(scripted(t, longer(), 7, 5000), api.Poke{Step: 90, At: 130, Word: junk}), scripted(t, program(fn(0, 0, 0, op(api.OpFix, 3), op(api.OpError))), 9, 9),
	} {
		v := New(s)
		for v.Step() != api.Ended {
		}
		tells(t, "P2304", Run(s), v.Outcome())
		tells(t, "W9: once more", Run(s), v.Outcome())
	}
}
