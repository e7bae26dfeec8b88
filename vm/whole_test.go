package vm

import (
	"slices"
	"testing"

	"hearth/api"
	"hearth/value"
)

// turning is a program whose function 1 makes a turn and calls itself by a tail call, as often as its parameter says.
func turning(turns int, turn ...api.Ins) api.Program {
	loop := []api.Ins{op(api.OpLocal), op(api.OpFix, 1), op(api.OpLess), op(api.OpBranch, 6), op(api.OpFix), op(api.OpHalt)}
	loop = append(loop, turn...)
	loop = append(loop, op(api.OpClosure, 1), op(api.OpLocal), op(api.OpFix, 1), op(api.OpSub), op(api.OpTail, 1))
	return program(
		fn(0, 0, 0, op(api.OpTable), op(api.OpSetGlobal), op(api.OpClosure, 1), op(api.OpFix, turns), op(api.OpTail, 1)),
		fn(1, 1, 0, loop...))
}

// A loop by tail calls runs in as many pages as it needs for a few turns.
func TestW7TailCalls(t *testing.T) {
	turn := []api.Ins{op(api.OpLocal), op(api.OpBox), op(api.OpPop), op(api.OpFix), op(api.OpDup), op(api.OpCons), op(api.OpPop), op(api.OpText, 1), op(api.OpPop)}
	least := 0
	for pages := 1; least == 0; pages++ {
		if Run(scripted(t, turning(40, turn...), pages, api.MaxFuel)).End == api.Done {
			least = pages
		}
	}
	for _, turns := range []int{1000, 30000} {
		o := Run(scripted(t, turning(turns, turn...), least, api.MaxFuel))
		if o.End != api.Done || len(o.Collections) < turns/20 {
			t.Errorf("W7: %d turns in %d pages: %d behind %d steps, %d collections", turns, least, o.End, o.Steps, len(o.Collections))
		}
	}
}

// So does one that puts new keys into a table whose values hold on to their keys, but for the table's spine.
func TestW7Table(t *testing.T) {
	turn := []api.Ins{op(api.OpGlobal), op(api.OpFix, 1), op(api.OpBox), op(api.OpDup), op(api.OpBox), op(api.OpTablePut), op(api.OpPop)}
	least := 0
	for pages := 1; least == 0; pages++ {
		if Run(scripted(t, turning(2000, turn...), pages, api.MaxFuel)).End == api.Done {
			least = pages
		}
	}
	for _, pages := range []int{least, least + 10, 40} {
		v := New(scripted(t, turning(20000, turn...), pages, api.MaxFuel))
		pruned := 0
		for what := v.Step(); what != api.Ended; what = v.Step() {
			if what == api.Collected {
				pruned += v.Report().Pruned
			}
		}
		if o := v.Outcome(); o.End != api.Done || pruned < 19000 {
			t.Errorf("W7: %d pages: %d behind %d steps, %d collections, %d keys are gone", pages, o.End, o.Steps, len(o.Collections), pruned)
		}
	}
}

// If behind a collection the blocks are fewer than the pages, an object of up to 32 words fits: a program that holds on to less than that never runs out.
func TestW4Room(t *testing.T) {
	for _, size := range []int{1, 2, 3, 5, 7, 11, 15, 19, 31} {
		code := []api.Ins{op(api.OpFix, size), op(api.OpImm), op(api.OpVector), op(api.OpPop), op(api.OpFix), op(api.OpBox), op(api.OpPop), op(api.OpTable), op(api.OpPop), op(api.OpJump)}
		p := api.Program{Funcs: []api.Func{fn(0, 0, 0, code...)}}
		o := Run(scripted(t, p, 4, 3000)) // three blocks, and one that is let go at once
		if o.End != api.OutOfFuel {
			t.Errorf("W4: vectors of %d: %d behind %d steps", size, o.End, o.Steps)
		}
	}
}

// A program that comes back behind its callcc, again and again, with collections at every boundary.
func TestW8(t *testing.T) {
	p := program(
		fn(0, 1, 0,
			op(api.OpFix), op(api.OpSetGlobal, 1), op(api.OpFix, 5), op(api.OpSetLocal),
			op(api.OpFix, 100), op(api.OpClosure, 1), op(api.OpCallCC), // 6
			op(api.OpOut), op(api.OpPop), // what came back
			op(api.OpLocal), op(api.OpOut), op(api.OpPop), // the local as it was
			op(api.OpFix, 77), op(api.OpSetLocal),
			op(api.OpGlobal, 1), op(api.OpFix, 1), op(api.OpAdd), op(api.OpDup), op(api.OpSetGlobal, 1), // the heap as it is
			op(api.OpFix, 4), op(api.OpLess), op(api.OpBranch, 26),
			op(api.OpGlobal), op(api.OpGlobal, 1), op(api.OpCall, 1), op(api.OpPop), // 25
			op(api.OpReturn)), // 26: what lay below on the stack
		fn(1, 1, 0, op(api.OpLocal), op(api.OpSetGlobal), op(api.OpFix, 9), op(api.OpReturn)))
	s := scripted(t, p, 12, 9999)
	for _, every := range []int{0, 1, 3} {
		s.Force = nil
		for i := range 300 {
			if every > 0 && i%every == 0 {
				s.Force = append(s.Force, i)
			}
		}
		o := Run(s)
		if o.End != api.Done || o.Value != "100" || !slices.Equal(o.Log, []string{"9", "5", "1", "5", "2", "5", "3", "5"}) {
			t.Errorf("W8: with a collection at each %d: %+v", every, o)
		}
	}
}

// A header that a corruption has made wrong is told by the next collection, wherever it stands: of what nothing refers to as well.
func TestW5Headers(t *testing.T) {
	s := forced(scripted(t, garbage(), 6, 70), 60)
	d := ahead(t, s, 50).Dump()
	for _, b := range d.Blocks {
		v := New(poked(s, api.Poke{Step: 50, At: b.At, Word: d.Words[b.At] ^ 8}))
		for v.Step() != api.Ended {
		}
		o := v.Outcome()
		if o.End != api.Corrupt || o.At != b.At || o.Steps > 60 {
			t.Errorf("W5: the header at %d: %+v", b.At, o)
		}
		tells(t, "W5: it was put right again", Run(poked(s, api.Poke{Step: 50, At: b.At, Word: 0}, api.Poke{Step: 50, At: b.At, Word: d.Words[b.At]})), ended(api.OutOfFuel, 70, 60))
	}
	for c, at := range d.Heads {
		if at >= 0 {
			o := Run(poked(s, api.Poke{Step: 59, At: at, Word: value.Link(at)}))
			if o.End != api.Corrupt || o.At != at {
				t.Errorf("W5: the link of the class %d at %d: %+v", c, at, o)
			}
		}
	}
	tells(t, "W5: what no collection comes to", Run(poked(scripted(t, garbage(), 6, 70), api.Poke{Step: 50, At: d.Blocks[4].At})), ended(api.OutOfFuel, 70))
}

// Out of memory straight behind a collection only, whatever the arena is.
func TestP2306(t *testing.T) {
	for pages := 3; pages < 12; pages++ {
		for _, p := range []api.Program{longer(), only(op(api.OpFix, 60), op(api.OpLocal), op(api.OpVector), op(api.OpSetLocal), op(api.OpJump)), program(fn(0, 1, 0, op(api.OpText, 1), op(api.OpLocal), op(api.OpCons), op(api.OpSetLocal), op(api.OpJump)))} {
			v := New(scripted(t, p, pages, api.MaxFuel))
			last := api.Ended
			for what := v.Step(); what != api.Ended; what = v.Step() {
				last = what
			}
			o := v.Outcome()
			if o.End != api.OutOfMemory || last != api.Collected || o.Collections[len(o.Collections)-1] != o.Steps {
				t.Errorf("P2306: %d pages: %+v behind %d", pages, o, last)
			}
			if len(o.Collections) > 1 && o.Collections[len(o.Collections)-2] == o.Steps {
				t.Errorf("P2302: %d pages: two collections at one boundary: %v", pages, o.Collections)
			}
		}
	}
}

// The log is full at MaxLog texts; a run of many steps is not slowed down by what it has told.
func TestFullLog(t *testing.T) {
	p := only(op(api.OpImm, 2), op(api.OpOut), op(api.OpPop), op(api.OpJump))
	o := Run(forced(scripted(t, p, 2, api.MaxFuel), 9))
	if o.End != api.Failed || o.Err != api.ErrLog || len(o.Log) != api.MaxLog || o.Steps != 4*api.MaxLog+2 || !slices.Equal(o.Collections, []int{9}) {
		t.Errorf("P2302: %d, %d, %d texts, %d steps", o.End, o.Err, len(o.Log), o.Steps)
	}
}

// A list of many pairs is collected and shown like a short one.
func TestDeep(t *testing.T) {
	const pairs = 30000
	p := turning(pairs, op(api.OpLocal), op(api.OpGlobal, 1), op(api.OpCons), op(api.OpSetGlobal, 1))
	p.Funcs[0].Code = append([]api.Ins{op(api.OpImm), op(api.OpSetGlobal, 1)}, p.Funcs[0].Code...)
	p.Funcs[1].Code[4] = op(api.OpGlobal, 1)
	o := Run(forced(scripted(t, p, api.MaxPages, api.MaxFuel), 12*pairs))
	if o.End != api.Done || o.Value != "#<large>" || len(o.Collections) < 1 {
		t.Errorf("rule 7: %d behind %d steps: %.40s, %d collections", o.End, o.Steps, o.Value, len(o.Collections))
	}
	deep := program(
		fn(0, 0, 0, op(api.OpClosure, 1), op(api.OpFix, 9000), op(api.OpCall, 1), op(api.OpReturn)),
		fn(1, 1, 0, op(api.OpLocal), op(api.OpFix, 1), op(api.OpLess), op(api.OpBranch, 6), op(api.OpLocal), op(api.OpReturn),
			op(api.OpClosure, 1), op(api.OpLocal), op(api.OpFix, 1), op(api.OpSub), op(api.OpCall, 1), op(api.OpReturn)))
	o = Run(forced(scripted(t, deep, 3000, api.MaxFuel), 80000))
	if o.End != api.Done || o.Value != "0" || len(o.Collections) != 1 {
		t.Errorf("rule 7: %d behind %d steps: %s, %d collections", o.End, o.Steps, o.Value, len(o.Collections))
	}
}
