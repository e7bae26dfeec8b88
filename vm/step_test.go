package vm

import (
	"slices"
	"strconv"
	"testing"

	"hearth/api"
	"hearth/value"
)

// Each event is told: a collection where there is no room, then the instruction at the same boundary.
func TestP2302Events(t *testing.T) {
	v := ahead(t, scripted(t, garbage(), 3, 1000), 82)
	goes(t, "P2302", v, api.Collected, api.Executed, api.Executed)
	tells(t, "P2302", v.Outcome(), ended(api.Running, 84, 82))
	if r := v.Report(); r != (api.Report{Kept: 3, Freed: 16}) {
		t.Errorf("P2302: the report is %+v", r)
	}
	v = ahead(t, scripted(t, longer(), 3, 1000), 84)
	tells(t, "P2302", v.Outcome(), ended(api.Running, 84))
	goes(t, "P2302", v, api.Collected, api.Ended, api.Ended)
	tells(t, "P2302", v.Outcome(), ended(api.OutOfMemory, 84, 84))
	v = New(scripted(t, five(), 2, 9))
	goes(t, "P2302: Done is an event", v, api.Executed, api.Executed, api.Ended, api.Ended)
	v = New(scripted(t, only(op(api.OpFix, 3), op(api.OpError)), 2, 9))
	goes(t, "P2302: Failed is an event", v, api.Executed, api.Executed, api.Ended)
	tells(t, "P2302", v.Outcome(), failure(api.ErrUser, 3, 2))
	v = New(scripted(t, five(), 2, 1))
	goes(t, "P2302: OutOfFuel is none", v, api.Executed, api.Ended, api.Ended)
}

// The fuel comes ahead of all else of its boundary.
func TestP2302Fuel(t *testing.T) {
	for fuel := range 80 {
		s := forced(scripted(t, longer(), 4, fuel), fuel, fuel+1)
		s.Pokes = []api.Poke{{Step: fuel, At: 0, Word: junk}, {Step: fuel - 1, At: 255, Word: 9}} // the last page is free
		v := New(s)
		for v.Step() != api.Ended {
		}
		tells(t, "P2302", v.Outcome(), ended(api.OutOfFuel, fuel))
		if w := v.Dump().Words; w[0] == junk || (w[255] == 9) != (fuel > 0) {
			t.Errorf("P2302: fuel %d: the words are %d, %d", fuel, w[0], w[255])
		}
	}
	looping := only(op(api.OpJump))
	for _, fuel := range []int{0, 1, 2, 77} {
		tells(t, "W6", Run(scripted(t, looping, 2, fuel)), ended(api.OutOfFuel, fuel))
	}
	tells(t, "P2302: the last step needs no more fuel", Run(scripted(t, five(), 2, 2)), done("5", 2))
}

// Forced collections are made where the list says, each once, in whatever order it stands.
func TestP2302Force(t *testing.T) {
	looping := scripted(t, only(op(api.OpJump)), 2, 6)
	for i, x := range []struct {
		force, want []int
	}{
		{nil, nil},
		{[]int{0}, []int{0}},
		{[]int{5}, []int{5}},
		{[]int{6, 7, most}, nil}, // no such boundary has an event
		{[]int{-1, least, -6}, nil},
		{[]int{4, 4, 4, 1, 4, 1}, []int{1, 4}},
		{[]int{9, 5, 4, 3, 2, 1, 0, -1}, []int{0, 1, 2, 3, 4, 5}},
	} {
		tells(t, "P2302: list "+strconv.Itoa(i), Run(forced(looping, x.force...)), ended(api.OutOfFuel, 6, x.want...))
	}
	v := New(forced(looping, 0, 2, 2))
	goes(t, "P2302", v, api.Collected, api.Executed, api.Executed, api.Collected, api.Executed)
	v = New(forced(scripted(t, five(), 2, 9), 2, 3))
	goes(t, "P2302: behind the end there is no boundary", v, api.Executed, api.Executed, api.Ended)
	tells(t, "P2302", v.Outcome(), done("5", 2))
}

// A forced collection is a collection at its boundary: behind it there is no other one there.
func TestP2302ForceWhereRoomIsShort(t *testing.T) {
	v := ahead(t, forced(scripted(t, longer(), 3, 1000), 84, 84), 84)
	goes(t, "P2302", v, api.Collected, api.Ended)
	tells(t, "P2302: the forced one has found no room", v.Outcome(), ended(api.OutOfMemory, 84, 84))
	v = ahead(t, forced(scripted(t, longer(), 3, 1000), 83), 84)
	goes(t, "P2302: that was at another boundary", v, api.Collected, api.Ended)
	tells(t, "P2302", v.Outcome(), ended(api.OutOfMemory, 84, 83, 84))
	v = ahead(t, forced(scripted(t, garbage(), 3, 1000), 82), 82)
	goes(t, "P2302: the forced one has found room", v, api.Collected, api.Executed)
	tells(t, "P2302", v.Outcome(), ended(api.Running, 83, 82))
}

// wordsAt is how a run's words stand behind the first event of a boundary.
func wordsAt(t *testing.T, s api.Script, step int) []int {
	t.Helper()
	v := ahead(t, s, step)
	v.Step()
	return v.Dump().Words
}

// Corruptions write what they say, at their boundary, in their order.
func TestP2302Pokes(t *testing.T) {
	s := scripted(t, only(op(api.OpJump)), 3, 9)
	const spot = 190 // in a free page: nobody looks there
	s.Pokes = []api.Poke{
		{Step: 4, At: spot, Word: 40}, {Step: 2, At: spot, Word: 20}, {Step: 4, At: spot, Word: 41}, {Step: 2, At: spot + 1, Word: least}, {Step: 4, At: spot + 1, Word: most},
		{Step: 3, At: -1, Word: 9}, {Step: 3, At: 192, Word: 9}, {Step: 3, At: most, Word: 9}, {Step: 3, At: least, Word: 9},
		{Step: -1, At: spot, Word: 9}, {Step: 9, At: spot, Word: 9}, {Step: least, At: spot, Word: 9}, {Step: most, At: spot, Word: 9},
	}
	clean := s
	clean.Pokes = nil
	for step := range 9 {
		want := wordsAt(t, clean, step)
		switch {
		case step >= 4:
			want[spot], want[spot+1] = 41, most
		case step >= 2:
			want[spot], want[spot+1] = 20, least
		}
		if have := wordsAt(t, s, step); !slices.Equal(have, want) {
			t.Errorf("P2302: boundary %d: %v, want %v", step, have[spot:], want[spot:])
		}
	}
	tells(t, "P2302", Run(s), ended(api.OutOfFuel, 9))
}

// Ahead of a boundary's first event nothing of it is made, and a corruption is made once, though the boundary has several events.
func TestP2302PokesOnce(t *testing.T) {
	s := forced(scripted(t, only(op(api.OpJump)), 3, 9), 5)
	s.Pokes = []api.Poke{{Step: 5, At: 190, Word: 8}}
	v := ahead(t, s, 5)
	if w := v.Dump().Words[190]; w != 0 {
		t.Errorf("P2302: the word is %d ahead of the boundary's first event", w)
	}
	goes(t, "P2302", v, api.Collected)
	for range 3 {
		if w := v.Dump().Words[190]; w != 0 {
			t.Errorf("P2302: the word is %d behind the collection, which clears it", w)
		}
		v.Step()
	}
	v = ahead(t, poked(scripted(t, garbage(), 3, 1000), api.Poke{Step: 82, At: 63, Word: 8}), 82)
	goes(t, "P2302: the boundary of a collection that is not forced", v, api.Collected, api.Executed)
	if w := v.Dump().Words[63]; w == 8 {
		t.Errorf("P2302: the corruption was made twice")
	}
	v = New(poked(scripted(t, five(), 3, 9), api.Poke{Step: 2, At: 190, Word: 8}))
	goes(t, "P2302: a boundary behind the end", v, api.Executed, api.Executed, api.Ended, api.Ended)
	if w := v.Dump().Words[190]; w != 0 {
		t.Errorf("P2302: the word is %d behind the end", w)
	}
}

// At a boundary the corruptions come first, then the forced collection.
func TestP2302CorruptedCollection(t *testing.T) {
	s := forced(scripted(t, longer(), 3, 1000), 60, 70)
	for _, at := range []int{0, 2, 4, 64, 72, 128, 132, 129, 130, 65, 66} {
		s.Pokes = []api.Poke{{Step: 70, At: at, Word: junk}}
		v := ahead(t, s, 70)
		dump, report := v.Dump(), v.Report()
		goes(t, "P2302", v, api.Ended, api.Ended)
		tells(t, "P2302: index "+strconv.Itoa(at), v.Outcome(), corrupt(at, 70, 60))
		dump.Words[at] = junk
		if !sameDump(v.Dump(), dump) || v.Report() != report || report == (api.Report{}) {
			t.Errorf("P2302: a collection that was not made has changed something: %v, %v", v.Report(), report)
		}
	}
	s.Pokes = []api.Poke{{Step: 70, At: 132, Word: junk}, {Step: 70, At: 128, Word: junk}, {Step: 70, At: 140, Word: junk}}
	tells(t, "P2302: the least of several", Run(s), corrupt(128, 70, 60))
	s.Pokes = append(s.Pokes, api.Poke{Step: 70, At: 128, Word: ahead(t, s, 70).Dump().Words[128]})
	tells(t, "P2302: one of them was put right again", Run(s), corrupt(132, 70, 60))
	s.Pokes = []api.Poke{{Step: 71, At: 128, Word: junk}}
	tells(t, "P2302: behind the forced one", Run(s), corrupt(128, 84, 60, 70)) // no instruction opens the first pair
}

// An instruction that meets a wrong word counts as a step, also where it would need a collection.
func TestP2302CorruptedInstruction(t *testing.T) {
	s := scripted(t, longer(), 3, 1000)
	v := ahead(t, s, 84) // ahead of a cons without room
	stack := v.Roots()[0].N + 6
	for i, x := range []struct {
		at, word int
	}{
		{stack, junk}, {stack + 1, junk}, {stack, wordOf(ref(64))}, {v.Roots()[0].N, 0}, {v.Roots()[0].N + 3, 7}, {v.Roots()[0].N + 3, -1}, {v.Roots()[0].N + 3, least},
	} {
		v := ahead(t, poked(s, api.Poke{Step: 84, At: x.at, Word: x.word}), 84)
		goes(t, "P2302", v, api.Executed, api.Ended)
		tells(t, "P2302: corruption "+strconv.Itoa(i), v.Outcome(), corrupt(x.at, 85))
		v = ahead(t, poked(forced(s, 84), api.Poke{Step: 84, At: x.at, Word: x.word}), 84)
		if x.at == v.Roots()[0].N+3 { // no collection looks at raw words
			goes(t, "P2302", v, api.Collected, api.Executed, api.Ended)
			tells(t, "P2302: corruption "+strconv.Itoa(i), v.Outcome(), corrupt(x.at, 85, 84))
			continue
		}
		goes(t, "P2302", v, api.Ended)
		tells(t, "P2302: corruption "+strconv.Itoa(i), v.Outcome(), corrupt(x.at, 84))
	}
	v = ahead(t, poked(s, api.Poke{Step: 24, At: 144, Word: value.Link(152)}), 24)
	goes(t, "P2302: a link that a cons takes", v, api.Executed, api.Ended)
	tells(t, "P2302", v.Outcome(), corrupt(144, 25))
	v = ahead(t, poked(s, api.Poke{Step: 84, At: v.Roots()[0].N + 3, Word: 6}), 84)
	goes(t, "P2302: another instruction is looked at", v, api.Executed)
}

// A corruption that puts a right value in the place of another is told by nobody.
func TestP2302RightPokes(t *testing.T) {
	p := only(op(api.OpFix, 1), op(api.OpFix, 2), op(api.OpCons), op(api.OpReturn))
	for word, want := range map[int]string{8 * 5: "(5 . 2)", wordOf(value.Imm(api.ImmTrue)): "(#t . 2)", wordOf(ref(128)): "#0=(#0# . 2)"} {
		for _, force := range [][]int{nil, {3}} {
			s := poked(forced(scripted(t, p, 3, 9), force...), api.Poke{Step: 3, At: 129, Word: word})
			tells(t, "P2302", Run(s), done(want, 4, force...))
		}
	}
	same := poked(scripted(t, p, 3, 9), api.Poke{Step: 3, At: 128, Word: ahead(t, scripted(t, p, 3, 9), 3).Dump().Words[128]})
	tells(t, "P2302: the word that was there", Run(same), done("(1 . 2)", 4))
}

// full is code behind which a page of pairs is full of a list that lives, in an arena of three pages.
func full() []api.Ins {
	code := []api.Ins{op(api.OpImm)}
	for range 16 {
		code = append(code, op(api.OpFix, 1), op(api.OpSwap), op(api.OpCons))
	}
	return code
}

// An instruction that fails needs no room: there is no collection.
func TestP2302FailsWithoutRoom(t *testing.T) {
	for i, x := range []struct {
		code []api.Ins
		want api.Outcome
	}{
		{[]api.Ins{op(api.OpFix, -1), op(api.OpImm), op(api.OpVector), op(api.OpReturn)}, failure(api.ErrRange, -1, 52)},
		{[]api.Ins{op(api.OpFix, 1), op(api.OpDup), op(api.OpFloAdd), op(api.OpReturn)}, failure(api.ErrType, 1, 52)},
		{[]api.Ins{op(api.OpFix, 1), op(api.OpCall), op(api.OpReturn)}, failure(api.ErrCall, 0, 51)},
		{[]api.Ins{op(api.OpClosure), op(api.OpFix, 3), op(api.OpCall, 1), op(api.OpReturn)}, failure(api.ErrArity, 1, 52)},
		{[]api.Ins{op(api.OpClosure), op(api.OpCallCC), op(api.OpReturn)}, failure(api.ErrArity, 1, 51)},
		{[]api.Ins{op(api.OpFix, 1), op(api.OpDup), op(api.OpDup), op(api.OpTablePut), op(api.OpReturn)}, failure(api.ErrType, 1, 53)},
		{[]api.Ins{op(api.OpFix, 5), op(api.OpReturn)}, done("5", 51)},                                                         // what needs none does not fail
		{[]api.Ins{op(api.OpFix, 5), op(api.OpDup), op(api.OpCons), op(api.OpReturn)}, ended(api.OutOfMemory, 51, 51)},         // and this one is out of it
		{[]api.Ins{op(api.OpFix, 70), op(api.OpImm), op(api.OpVector), op(api.OpReturn)}, ended(api.OutOfMemory, 51, 51)},      //
		{[]api.Ins{op(api.OpPop), op(api.OpFix, 5), op(api.OpDup), op(api.OpCons), op(api.OpReturn)}, done("(5 . 5)", 54, 52)}, // the list is let go
	} {
		p := api.Program{Funcs: []api.Func{fn(0, 0, 0, append(full(), x.code...)...)}}
		tells(t, "P2302: code "+strconv.Itoa(i), Run(scripted(t, p, 3, 99)), x.want)
	}
}

// What an instruction needs of several objects is asked for in one: callcc needs a continuation and a frame.
func TestP2302SeveralNeeds(t *testing.T) {
	p := api.Program{Funcs: []api.Func{
		fn(0, 0, 0, op(api.OpClosure, 1), op(api.OpCallCC), op(api.OpReturn)),
		fn(1, 30, 0, op(api.OpLocal), op(api.OpReturn)), // its frame has a page of its own
	}}
	v := ahead(t, scripted(t, p, 2, 99), 1)
	dump := v.Dump()
	goes(t, "P2302", v, api.Collected, api.Ended)
	tells(t, "P2302", v.Outcome(), ended(api.OutOfMemory, 1, 1))
	if have := v.Dump(); !sameDump(have, dump) {
		t.Errorf("P2302: an instruction without room has made something: %v", have.Blocks)
	}
	tells(t, "P2302", Run(scripted(t, p, 3, 99)), done("#<continuation>", 5))
}
