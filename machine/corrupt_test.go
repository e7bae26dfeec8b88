package machine

import (
	"slices"
	"testing"

	"hearth/api"
	"hearth/table"
)

// junk is a word that is no value, no header, no link, and no pc.
const junk = 8*1000 + 7

// stand is a run in an arena that stands ahead of an instruction.
type stand struct {
	*Machine[*table.Heap]
	t *testing.T
}

func standing(t *testing.T, p api.Program, steps int) stand {
	t.Helper()
	return stand{started(t, arena(t, 40), p, steps), t}
}

// named is the run of one of the situations.
func named(t *testing.T, name string) stand {
	t.Helper()
	for _, x := range situations() {
		if x.name == name {
			return standing(t, x.p, x.steps)
		}
	}
	t.Fatalf("there is no situation %q", name)
	return stand{}
}

// slot is the index of a slot of the current frame.
func (s stand) slot(i int) int { return s.frame.N + 5 + i }

// at is the place of the object that a slot of the current frame refers to.
func (s stand) at(i int) int { return s.word(s.frame, 5+i).N }

// word is a field of an object.
func (s stand) word(v val, i int) val { return word(s.t, s.heap, v, i) }

// free is the index of the free block in which an object of so many words would be made. (Another one is made ahead of it, so that there is such a block.)
func (s stand) free(size int) int {
	s.t.Helper()
	_, fault := s.heap.Make(api.KindVector, size-1, 0)
	sound(s.t, fault)
	classes := []int{2, 4, 6, 8, 12, 16, 20, 32}
	c := slices.IndexFunc(classes, func(words int) bool { return words >= size })
	at := s.heap.Dump().Heads[c]
	if at < 0 {
		s.t.Fatalf("there is no free block for %d words", size)
	}
	return at
}

// wrongWord is a word that is wrong ahead of an instruction.
type wrongWord struct {
	name string // of the situation
	what string
	at   func(s stand) int // its index; it is the one that is told
	look bool              // it is met while the instruction is looked at
	kept bool              // nothing has changed
}

func wrongWords() []wrongWord {
	own := func(i int) func(s stand) int { return func(s stand) int { return s.frame.N + i } }
	slot := func(i int) func(s stand) int { return func(s stand) int { return s.slot(i) } }
	object := func(i int) func(s stand) int { return func(s stand) int { return s.at(i) } }
	room := func(size int) func(s stand) int { return func(s stand) int { return s.free(size) } }
	link := func(i int) func(s stand) int { return func(s stand) int { return s.word(s.frame, 1).N + i } }
	target := func(s stand) val { return s.word(s.word(s.frame, 6), 1) }
	var out []wrongWord
	for _, x := range situations() {
		out = append(out, wrongWord{x.name, "the frame's header", own(0), true, true}, wrongWord{x.name, "the pc", own(3), true, true})
	}
	return append(out, []wrongWord{
		{"setlocal", "the operand", slot(3), true, true},
		{"local", "the local", slot(0), false, true},
		{"captured", "the closure", own(2), true, true},
		{"captured", "the closure's header", func(s stand) int { return s.word(s.frame, 2).N }, false, true},
		{"captured", "the captured value", func(s stand) int { return s.word(s.frame, 2).N + 1 }, false, true},
		{"global", "the global", func(s stand) int { return s.globals.N + 2 }, true, true},
		{"global", "the globals' header", func(s stand) int { return s.globals.N }, true, true},
		{"global", "the header of what it is", func(s stand) int { return s.word(s.globals, 2).N }, false, true},
		{"setglobal", "the globals' header", func(s stand) int { return s.globals.N }, false, true},
		{"pop", "the operand", slot(0), true, true},
		{"dup", "the operand's header", object(0), false, true},
		{"swap", "the second operand", slot(1), true, true},
		{"swap", "the first operand's header", object(0), false, true},
		{"swap", "the second operand's header", object(1), false, true},
		{"branch", "the operand", slot(0), true, true},
		{"text", "the link of the free block", room(3), false, true},
		{"flo", "the link of the free block", room(2), false, true},
		{"closure", "the link of the free block", room(4), false, true},
		{"closure", "the third operand", slot(2), true, true},
		{"call", "the closure's header", object(0), true, true},
		{"call", "the argument", slot(1), true, true},
		{"call", "the argument's header", object(1), false, true},
		{"call", "the link of the free block", room(11), false, true},
		{"tail", "the closure's header", object(0), true, true},
		{"tail", "the frame's link", own(1), true, true},
		{"tail", "the argument's header", object(1), false, true},
		{"callcc", "the closure's header", object(0), true, true},
		{"callcc", "the link of the free block of the continuation", room(2), false, true},
		{"callcc", "the link of the free block of the frame", room(11), false, false},
		{"return", "the link", own(1), true, true},
		{"return", "the header of what it leads to", link(0), true, true},
		{"return", "the pc of what it leads to", link(3), true, true},
		{"return into a copy", "the link of the free block", room(6), false, true},
		{"return into a copy", "a slot of what it leads to", link(5), false, false},
		{"return into a copy", "the link of what it leads to", link(1), false, false},
		{"return into a copy", "the closure of what it leads to", link(2), false, false},
		{"the last return", "the link", own(1), true, true},
		{"the last return", "the header of the answer", object(0), false, true},
		{"the last return", "what the answer has", func(s stand) int { return s.at(0) + 1 }, false, true},
		{"call of a continuation", "the continuation's header", object(1), true, true},
		{"call of a continuation", "the target", func(s stand) int { return s.at(1) + 1 }, true, true},
		{"call of a continuation", "the target's header", func(s stand) int { return target(s).N }, true, true},
		{"call of a continuation", "the target's pc", func(s stand) int { return target(s).N + 3 }, true, true},
		{"tail call of a continuation", "the target", func(s stand) int { return s.at(1) + 1 }, true, true},
		{"callcc of a continuation", "the target", func(s stand) int { return s.at(1) + 1 }, true, true},
		{"callcc of a continuation", "the target's link", func(s stand) int { return target(s).N + 1 }, false, false},
		{"halt", "the operand's header", object(0), false, true},
		{"halt", "what the operand has", func(s stand) int { return s.at(0) + 1 }, false, true},
		{"error", "the operand", slot(0), true, true},
		{"cons", "the first operand", slot(0), true, true},
		{"cons", "the link of the free block", room(3), false, true},
		{"unbox", "the operand's header", object(0), true, true},
		{"unbox", "what the operand has", func(s stand) int { return s.at(0) + 1 }, false, true},
		{"floadd", "the second operand's header", object(1), true, true},
		{"textref", "the operand's header", object(0), true, true},
		{"tableput", "the table's spine", func(s stand) int { return s.at(0) + 2 }, true, true},
		{"tableput", "the link of the free block of the entry", room(4), false, false},
		{"tableget", "the table's spine", func(s stand) int { return s.at(0) + 2 }, false, true},
		{"out", "the operand's header", object(0), false, true},
		{"out", "what the operand has", func(s stand) int { return s.at(0) + 1 }, false, true},
	}...)
}

// A wrong word that an instruction meets ends the run, at its index; the step counts.
func TestP2205WrongWords(t *testing.T) {
	for _, x := range wrongWords() {
		s := named(t, x.name)
		index := x.at(s)
		promise := x.name + ", " + x.what
		steps := s.Outcome().Steps
		s.heap.Poke(index, junk)
		before := s.heap.Dump()
		roots := s.Roots()
		sizes, fault := s.Needs()
		if x.look && (fault != wrongAt(index) || len(sizes) > 0) || !x.look && fault != fine {
			t.Errorf("P2203: %s: Needs: %v, %v, want %d", promise, sizes, fault, index)
		}
		if !s.Step() || s.Step() {
			t.Errorf("P2205: %s: no step, or one more", promise)
		}
		tells(t, "P2205: "+promise, s.Outcome(), corrupt(index, steps+1))
		after := s.heap.Dump()
		if same := slices.Equal(before.Words, after.Words) && slices.Equal(before.Blocks, after.Blocks); same != x.kept {
			t.Errorf("P2205: %s: nothing has changed: %v", promise, same)
		}
		if !slices.Equal(s.Roots(), roots) {
			t.Errorf("P2208: %s: the roots are %v, were %v", promise, s.Roots(), roots)
		}
	}
}

// What was written ahead of a wrong word stays: a callcc whose frame can't be made has made its continuation, and shares and waits.
func TestP2206WrittenAhead(t *testing.T) {
	s := named(t, "callcc")
	index := s.free(11)
	k := s.free(2)
	s.heap.Poke(index, junk)
	s.Step()
	tells(t, "P2206", s.Outcome(), corrupt(index, 2))
	b, _ := s.heap.Block(k)
	if b.Kind != api.KindCont || s.word(ref(k), 1) != s.frame || raw(t, s.heap, s.frame, 4) != 1 || slots(t, s.heap, s.frame)[0] != void() || raw(t, s.heap, s.frame, 3) != 1 {
		t.Errorf("P2206: %v, %v", b, slots(t, s.heap, s.frame))
	}
	s = named(t, "out")
	s.heap.Poke(s.at(0)+1, junk)
	s.Step()
	if log := s.Outcome().Log; len(log) > 0 {
		t.Errorf("P2206: a value with a wrong word was told: %q", log)
	}
}

// A word that no instruction reads is not met, and one that is written over is right again.
func TestP2206NotMet(t *testing.T) {
	box := codeOf(op(api.OpFix, 6), op(api.OpBox))
	for i, x := range []struct {
		s  stand
		at func(s stand) int
	}{
		{named(t, "setlocal"), func(s stand) int { return s.slot(0) }},                       // the local becomes it
		{named(t, "setlocal"), func(s stand) int { return s.slot(1) }},                       // another one
		{named(t, "setlocal"), func(s stand) int { return s.at(3) }},                         // what is set is not opened
		{named(t, "setglobal"), func(s stand) int { return s.globals.N + 2 }},                //
		{named(t, "setglobal"), func(s stand) int { return s.globals.N + 1 }},                //
		{named(t, "pop"), func(s stand) int { return s.at(0) }},                              // nor what is taken
		{named(t, "branch"), func(s stand) int { return s.at(0) }},                           //
		{named(t, "jump"), func(s stand) int { return s.frame.N + 1 }},                       //
		{named(t, "call"), func(s stand) int { return s.frame.N + 1 }},                       // nor is the link of a frame that calls
		{named(t, "call"), func(s stand) int { return s.frame.N + 2 }},                       //
		{named(t, "return"), func(s stand) int { return s.frame.N + 2 }},                     //
		{named(t, "closure"), func(s stand) int { return s.at(0) }},                          //
		{standing(t, called(box, op(api.OpFix)), 2), func(s stand) int { return s.slot(1) }}, // the slot above the stack
	} {
		steps := x.s.Outcome().Steps
		x.s.heap.Poke(x.at(x.s), junk)
		if _, fault := x.s.Needs(); fault != fine {
			t.Errorf("P2203: %d: %v", i, fault)
		}
		x.s.Step()
		tells(t, "P2206", x.s.Outcome(), api.Outcome{Steps: steps + 1})
	}
}
