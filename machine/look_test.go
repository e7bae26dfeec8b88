package machine

import (
	"fmt"
	"slices"
	"strconv"
	"strings"
	"testing"

	"hearth/api"
	"hearth/graph"
	"hearth/prim"
)

// bytesOf is a program that makes a text of so many bytes.
func bytesOf(n int) api.Program {
	p := plainly(op(api.OpText), op(api.OpHalt))
	p.Texts = [][]byte{make([]byte, n)}
	return p
}

// called is a program whose first function is this code, behind which the run halts, if it comes there. Function 1 takes one argument, and answers 0; function 2 has three captures; function 3 takes three arguments, and has the largest frames.
func called(parts ...any) api.Program {
	return program(
		fn(0, 0, 0, codeOf(parts...), op(api.OpHalt)),
		fn(1, 4, 0, op(api.OpFix), op(api.OpFix), op(api.OpPop), op(api.OpReturn)),
		fn(0, 0, 3, op(api.OpJump)),
		fn(3, 64, 0, slices.Repeat(codeOf(op(api.OpFix)), 64), op(api.OpHalt)),
	)
}

// What the instruction needs that stands behind so many steps.
func TestP2203Needs(t *testing.T) {
	three := codeOf(op(api.OpFix, 1), op(api.OpFix, 2), op(api.OpFix, 3))
	fun := func(n int) api.Ins { return op(api.OpClosure, n) }
	each(t, func(t *testing.T, make func() prim.Heap) {
		for i, x := range []struct {
			p     api.Program
			steps int
			want  []int
		}{
			{bytesOf(0), 0, []int{2}}, {bytesOf(1), 0, []int{3}}, {bytesOf(8), 0, []int{3}}, {bytesOf(9), 0, []int{4}}, {bytesOf(4096), 0, []int{514}},
			{called(op(api.OpFlo, 5)), 0, []int{2}},
			{called(fun(0)), 0, []int{1}},
			{called(three, fun(2)), 3, []int{4}},
			{called(op(api.OpFix)), 0, nil},
			{called(op(api.OpChar)), 0, nil},
			{called(op(api.OpImm)), 0, nil},
			{called(three, op(api.OpSetGlobal)), 3, nil},
			{called(three, op(api.OpSetGlobal), op(api.OpGlobal)), 4, nil},
			{plainly(op(api.OpLocal, 2), op(api.OpSetLocal), op(api.OpJump)), 0, nil},
			{plainly(op(api.OpLocal, 2), op(api.OpSetLocal), op(api.OpJump)), 1, nil},
			{called(three, op(api.OpPop)), 3, nil},
			{called(three, op(api.OpDup)), 3, nil},
			{called(three, op(api.OpSwap)), 3, nil},
			{called(three, op(api.OpOut)), 3, nil},
			{called(op(api.OpJump)), 0, nil},
			{called(three, op(api.OpBranch, 4)), 3, nil},
			{called(three, op(api.OpAdd)), 3, nil},
			{called(three, op(api.OpCons)), 3, []int{3}},
			{called(three, op(api.OpBox)), 3, []int{2}},
			{called(three, op(api.OpToFlo)), 3, []int{2}},
			{called(three, op(api.OpVector)), 3, []int{3}},
			{called(op(api.OpFix, 1023), op(api.OpFix), op(api.OpVector)), 2, []int{1024}},
			{called(op(api.OpTable)), 0, []int{3}},
			{called(fun(1), op(api.OpFix), op(api.OpCall, 1)), 2, []int{11}},
			{called(fun(1), op(api.OpFix), op(api.OpTail, 1), op(api.OpFix)), 2, []int{11}},
			{called(fun(1), op(api.OpCallCC)), 1, []int{2, 11}},
			{called(fun(3), three, op(api.OpCall, 3)), 4, []int{133}},
			{called(three), 3, nil},
			{called(three, op(api.OpReturn), op(api.OpFix)), 3, nil},
			{called(fun(1), op(api.OpFix), op(api.OpCall, 1)), 6, nil}, // its return
			{called(fun(1), op(api.OpCallCC)), 5, []int{6}},            // into a frame that is shared
			{called(fun(1), op(api.OpFix), op(api.OpTail, 1), op(api.OpFix)), 6, nil},
		} {
			needed(t, "P2203: "+strconv.Itoa(i), started(t, make(), x.p, x.steps), x.want...)
		}
		for i, x := range failing() {
			needed(t, "P2203: failing "+strconv.Itoa(i), started(t, make(), x.p, x.want.Steps-1))
		}
	})
}

// failingWay is a program, and how its last instruction fails.
type failingWay struct {
	p    api.Program
	want api.Outcome
}

// failing are instructions that fail by what is looked at.
func failing() []failingWay {
	fun := func(n int) api.Ins { return op(api.OpClosure, n) }
	fix := op(api.OpFix, 6)
	var out []failingWay
	add := func(errno api.Errno, n, steps int, parts ...any) {
		out = append(out, failingWay{called(parts...), failure(errno, n, steps)})
	}
	add(api.ErrUser, 6, 2, fix, op(api.OpError), fix)
	add(api.ErrUser, api.LeastFix, 2, op(api.OpFix, api.LeastFix), op(api.OpError), fix)
	for _, in := range []api.Ins{op(api.OpImm, 1), op(api.OpChar, 65), op(api.OpFlo), op(api.OpText), fun(0)} {
		add(api.ErrType, 1, 2, in, op(api.OpError), fix)
		if in.Op != api.OpClosure {
			add(api.ErrCall, 0, 2, in, op(api.OpCall))
			add(api.ErrCall, 0, 3, in, fix, op(api.OpCall, 1))
			add(api.ErrCall, 0, 2, in, op(api.OpTail), fix)
			add(api.ErrCall, 0, 2, in, op(api.OpCallCC))
		}
	}
	for g := range 4 {
		add(api.ErrUnbound, g, 1, op(api.OpGlobal, g))
	}
	for n := range 9 {
		args := slices.Repeat(codeOf(fix), n)
		for f, params := range []int{0, 1, -1, 3} {
			if params != n && params >= 0 {
				add(api.ErrArity, n, n+2, fun(f), args, op(api.OpCall, n))
				add(api.ErrArity, n, n+2, fun(f), args, op(api.OpTail, n), fix)
			}
		}
	}
	add(api.ErrArity, 1, 2, fun(0), op(api.OpCallCC))
	add(api.ErrArity, 1, 2, fun(3), op(api.OpCallCC))
	add(api.ErrRange, 1024, 3, op(api.OpFix, 1024), fix, op(api.OpVector))
	add(api.ErrType, 2, 3, fix, op(api.OpImm), op(api.OpSub))
	return out
}

// An instruction that fails counts as a step, and leaves everything as it was.
func TestP2203Failing(t *testing.T) {
	each(t, func(t *testing.T, make func() prim.Heap) {
		for i, x := range failing() {
			h := make()
			m := started(t, h, x.p, x.want.Steps-1)
			roots := m.Roots()
			idle(t, "P2205: "+strconv.Itoa(i), h, func() {
				if !m.Step() {
					t.Errorf("P2205: %d: no step", i)
				}
			})
			tells(t, "P2203: "+strconv.Itoa(i), m.Outcome(), x.want)
			if !slices.Equal(m.Roots(), roots) {
				t.Errorf("P2208: %d: the roots are %v, were %v", i, m.Roots(), roots)
			}
		}
	})
}

// A continuation is called with one argument; the number of the others is told. (That of callcc is one always.)
func TestP2203Continuation(t *testing.T) {
	each(t, func(t *testing.T, make func() prim.Heap) {
		for n := range 9 {
			for _, call := range []int{api.OpCall, api.OpTail} {
				p := program(
					fn(0, 0, 0, op(api.OpClosure, 1), op(api.OpCallCC), op(api.OpHalt)),
					fn(1, 1, 0, op(api.OpLocal), slices.Repeat(codeOf(op(api.OpFix, 5)), n), op(call, n), op(api.OpReturn)))
				want := failure(api.ErrArity, n, n+4)
				if n == 1 {
					want = done("5", n+5)
				}
				tells(t, "P2203", played(t, make(), p, 40), want)
			}
		}
	})
}

// without is a program in whose function 1 a frame has no closure, and asks for a captured value.
func without() api.Program {
	return program(
		fn(0, 0, 0, op(api.OpFix, 1), op(api.OpClosure, 1), op(api.OpCall), op(api.OpHalt)),
		fn(0, 0, 1, op(api.OpCaptured), op(api.OpReturn)))
}

func TestP2203Captured(t *testing.T) {
	each(t, func(t *testing.T, make func() prim.Heap) {
		h := make()
		m := started(t, h, without(), 3)
		needed(t, "P2203", m)
		sound(t, h.Set(m.frame, 2, imm(0)))
		needed(t, "P2203", m)
		idle(t, "P2203", h, func() { m.Step() })
		tells(t, "P2203", m.Outcome(), failure(api.ErrCall, 0, 4))
	})
}

// A closure of a function that the program does not have, which no run makes: no number of arguments is right.
func TestP2203NoFunction(t *testing.T) {
	each(t, func(t *testing.T, make func() prim.Heap) {
		for _, tag := range []int{-1, 4, most, least} {
			for _, call := range []api.Ins{op(api.OpCall, 0), op(api.OpTail, 0), op(api.OpCallCC)} {
				h := make()
				m := started(t, h, called(op(api.OpGlobal), call, op(api.OpFix)), 0)
				k, fault := h.Make(api.KindClosure, 0, tag)
				sound(t, fault)
				sound(t, h.Set(m.globals, 1, k))
				m.Step()
				needed(t, "P2203", m)
				m.Step()
				n := 0
				if call.Op == api.OpCallCC {
					n = 1
				}
				tells(t, "P2203", m.Outcome(), failure(api.ErrArity, n, 2))
			}
		}
	})
}

// A return into a frame that does not wait fails: a link, or a target, that a corruption has led astray.
func TestP2203NotWaiting(t *testing.T) {
	p := program(
		fn(0, 0, 0, op(api.OpClosure, 1), op(api.OpCallCC), op(api.OpHalt)),
		fn(1, 1, 0, op(api.OpLocal), op(api.OpFix, 5), op(api.OpCall, 1), op(api.OpReturn)))
	each(t, func(t *testing.T, make func() prim.Heap) {
		h := make()
		m := started(t, h, p, 4)
		k := slots(t, h, m.frame)[0]
		target := word(t, h, k, 1)
		sound(t, h.SetRaw(target, 3, 2)) // a halt stands there
		needed(t, "P2203", m)
		idle(t, "P2203", h, func() { m.Step() })
		tells(t, "P2203", m.Outcome(), failure(api.ErrCall, 0, 5))

		h = make()
		m = started(t, h, program(
			fn(0, 0, 0, op(api.OpClosure, 1), op(api.OpFix), op(api.OpCall, 1), op(api.OpHalt)),
			fn(1, 1, 0, op(api.OpLocal), op(api.OpReturn))), 4)
		link := word(t, h, m.frame, 1)
		needed(t, "P2203", m)
		sound(t, h.SetRaw(link, 3, 0))
		idle(t, "P2203", h, func() { m.Step() })
		tells(t, "P2203", m.Outcome(), failure(api.ErrCall, 0, 5))

		h = make() // a frame that returns into itself does not wait
		m = started(t, h, plainly(op(api.OpFix), op(api.OpReturn)), 1)
		sound(t, h.Set(m.frame, 1, m.frame))
		tells(t, "P2203", played(t, make(), plainly(op(api.OpFix), op(api.OpReturn)), 2), done("0", 2))
		needed(t, "P2203", m)
		m.Step()
		tells(t, "P2203", m.Outcome(), failure(api.ErrCall, 0, 2))
	})
}

// situation is a run that stands ahead of an instruction.
type situation struct {
	name  string
	p     api.Program
	steps int
}

// situations are runs ahead of each sort of instruction.
func situations() []situation {
	fun := func(n int) api.Ins { return op(api.OpClosure, n) }
	box := codeOf(op(api.OpFix, 6), op(api.OpBox))
	escape := func(call ...api.Ins) api.Program {
		return program(
			fn(0, 0, 0, fun(1), op(api.OpCallCC), op(api.OpHalt)),
			fn(1, 1, 0, op(api.OpLocal), call, op(api.OpReturn)))
	}
	return []situation{
		{"fix", called(op(api.OpFix)), 0},
		{"text", called(op(api.OpText, 1)), 0},
		{"flo", called(op(api.OpFlo)), 0},
		{"local", plainly(box, op(api.OpSetLocal), op(api.OpLocal), op(api.OpHalt)), 3},
		{"setlocal", plainly(box, op(api.OpSetLocal), op(api.OpLocal), op(api.OpHalt)), 2},
		{"captured", without(), 3},
		{"global", called(box, op(api.OpSetGlobal, 1), op(api.OpGlobal, 1)), 3},
		{"setglobal", called(box, op(api.OpSetGlobal, 1), op(api.OpFix)), 2},
		{"pop", called(box, op(api.OpPop), op(api.OpFix)), 2},
		{"dup", called(box, op(api.OpDup)), 2},
		{"swap", called(box, box, op(api.OpSwap)), 4},
		{"jump", called(op(api.OpJump)), 0},
		{"branch", called(box, op(api.OpBranch), op(api.OpFix)), 2},
		{"closure", called(box, box, box, fun(2)), 6},
		{"call", called(fun(1), box, op(api.OpCall, 1)), 3},
		{"tail", called(fun(1), box, op(api.OpTail, 1), op(api.OpFix)), 3},
		{"callcc", called(fun(1), op(api.OpCallCC)), 1},
		{"return", called(fun(1), op(api.OpFix), op(api.OpCall, 1)), 6},
		{"return into a copy", called(fun(1), op(api.OpCallCC)), 5},
		{"the last return", called(box, op(api.OpReturn), op(api.OpFix)), 2},
		{"call of a continuation", escape(op(api.OpFix), op(api.OpCall, 1)), 4},
		{"tail call of a continuation", escape(op(api.OpFix), op(api.OpTail, 1), op(api.OpFix)), 4},
		{"callcc of a continuation", escape(op(api.OpCallCC)), 3},
		{"halt", called(box), 2},
		{"error", called(box, op(api.OpError), op(api.OpFix)), 2},
		{"cons", called(box, box, op(api.OpCons)), 4},
		{"unbox", called(box, op(api.OpUnbox)), 2},
		{"setbox", called(box, box, op(api.OpSetBox)), 4},
		{"floadd", called(op(api.OpFlo, 1), op(api.OpFlo, 2), op(api.OpFloAdd)), 2},
		{"textref", called(op(api.OpText, 1), op(api.OpFix, 2), op(api.OpTextRef)), 2},
		{"tableput", called(op(api.OpTable), box, box, op(api.OpTablePut)), 5},
		{"tableget", called(op(api.OpTable), box, box, op(api.OpTableGet)), 5},
		{"out", called(box, op(api.OpOut)), 2},
	}
}

// ahead is the run of a situation, over a heap that is watched from now on.
func (x situation) ahead(t *testing.T, h prim.Heap) (*Machine[*spy], *spy) {
	s := watch(h)
	m := started(t, s, x.p, x.steps)
	s.forget(-1, fine)
	return m, s
}

// A fault of any call of the heap while an instruction is looked at is the look's fault: Needs tells it, and a step ends the run.
func TestP2203Faults(t *testing.T) {
	each(t, func(t *testing.T, make func() prim.Heap) {
		for _, x := range situations() {
			m, s := x.ahead(t, make())
			m.Needs()
			looks := slices.Clone(s.calls)
			if w := s.writes(); len(w) > 0 || len(looks) < 2 {
				t.Errorf("P2203: %s: the look asks for %v, and writes %v", x.name, looks, w)
			}
			for at := range looks {
				for _, f := range []api.Fault{wrongAt(77), {Err: api.ErrRef}, {Err: api.ErrKind, At: 5}} {
					m, s := x.ahead(t, make())
					s.forget(at, f)
					idle(t, "P2204: "+x.name, s, func() {
						if sizes, fault := m.Needs(); len(sizes) > 0 || fault != f || len(s.calls) != at+1 {
							t.Errorf("P2204: %s: with %v at %s: %v, %v", x.name, f, looks[at], sizes, fault)
						}
						s.forget(at, f)
						if !m.Step() || len(s.calls) != at+1 {
							t.Errorf("P2205: %s: with %v at %s: then %v", x.name, f, looks[at], s.calls[at:])
						}
					})
					tells(t, "P2205: "+x.name, m.Outcome(), corrupt(f.At, x.steps+1))
				}
			}
		}
	})
}

// A fault that bears the number of a runtime error is a fault all the same, but where the chapter says that the instruction fails so.
func TestP2203FaultsAreNoFailures(t *testing.T) {
	f := api.Fault{Err: api.ErrUnbound, At: 9}
	for _, x := range situations() {
		for at := range 3 { // the current frame is opened, its pc read, and it is opened for the operands
			m, s := x.ahead(t, graph.New())
			s.forget(at, f)
			if _, fault := m.Needs(); fault != f {
				t.Errorf("P2203: %s: %v", x.name, fault)
			}
			s.forget(at, f)
			m.Step()
			tells(t, "P2205: "+x.name, m.Outcome(), corrupt(9, x.steps+1))
		}
	}
}

// A fault while an instruction is made ends the run where it is met, and no more is done.
func TestP2206Faults(t *testing.T) {
	each(t, func(t *testing.T, make func() prim.Heap) {
		for _, x := range situations() {
			m, s := x.ahead(t, make())
			m.Needs()
			looks := len(s.calls)
			s.forget(-1, fine)
			m.Step()
			all := slices.Clone(s.calls)
			if len(all) <= looks && m.Outcome().End != api.Failed {
				t.Errorf("P2206: %s asks nothing of the heap", x.name)
			}
			for at := looks; at < len(all); at++ {
				m, s := x.ahead(t, make())
				roots := m.Roots()
				s.forget(at, wrongAt(77))
				if !m.Step() || len(s.calls) != at+1 {
					t.Errorf("P2206: %s: behind a fault at %s: %v", x.name, all[at], s.calls[at:])
				}
				have := m.Outcome()
				have.Log = nil // what was told stays
				tells(t, "P2206: "+x.name+" at "+all[at], have, corrupt(77, x.steps+1))
				if !slices.Equal(m.Roots(), roots) {
					t.Errorf("P2206: %s: the roots are %v, were %v", x.name, m.Roots(), roots)
				}
			}
		}
	})
}

// The order in which an instruction is looked at: the calls of the heap ahead of what is made.
func TestP2203Order(t *testing.T) {
	tail := program(
		fn(0, 0, 0, op(api.OpClosure, 1), op(api.OpCall), op(api.OpHalt)),
		fn(0, 0, 0, op(api.OpClosure, 2), op(api.OpFix, 4), op(api.OpTail, 1)),
		fn(1, 1, 0, op(api.OpLocal), op(api.OpReturn)))
	frame := func(f int) []string {
		return []string{fmt.Sprint("Open", ref(f)), fmt.Sprint("Raw", ref(f), 3)}
	}
	get := func(v, i int) string { return fmt.Sprint("Get", ref(v), i) }
	open := func(v int) string { return fmt.Sprint("Open", ref(v)) }
	of := func(parts ...any) []string {
		var out []string
		for _, x := range parts {
			switch x := x.(type) {
			case string:
				out = append(out, x)
			case []string:
				out = append(out, x...)
			}
		}
		return out
	}
	escape := situations()[20:23]
	for i, x := range []struct {
		p     api.Program
		steps int
		want  []string
	}{
		{called(op(api.OpFix)), 0, of(frame(3), open(3))},
		{called(op(api.OpFix), op(api.OpFix), op(api.OpSub)), 2, of(frame(3), open(3), get(3, 5), get(3, 6))},
		{without(), 3, of(frame(5), open(5), get(5, 2))},
		{called(op(api.OpFix), op(api.OpSetGlobal, 2), op(api.OpGlobal, 2)), 2, of(frame(3), open(3), get(1, 3))},
		{called(op(api.OpFix), op(api.OpReturn), op(api.OpFix)), 1, of(frame(3), open(3), get(3, 5), get(3, 1))},
		{called(op(api.OpClosure, 1), op(api.OpFix), op(api.OpCall, 1)), 2, of(frame(3), open(3), get(3, 5), get(3, 6), open(4))},
		{called(op(api.OpClosure, 1), op(api.OpCallCC)), 1, of(frame(3), open(3), get(3, 5), open(4))},
		{tail, 4, of(frame(5), open(5), get(5, 5), get(5, 6), open(6), get(5, 1))},
		{tail, 6, of(frame(7), open(7), get(7, 6), get(7, 1), frame(3), fmt.Sprint("Raw", ref(3), 4))},
		{escape[0].p, escape[0].steps, of(frame(6), open(6), get(6, 6), get(6, 7), open(5), get(5, 1), frame(3), fmt.Sprint("Raw", ref(3), 4))},
		{escape[2].p, escape[2].steps, of(frame(6), open(6), get(6, 6), open(5), get(5, 1), frame(3), fmt.Sprint("Raw", ref(3), 4))},
		{called(op(api.OpClosure, 1), op(api.OpCall)), 1, of(frame(3), open(3), get(3, 5), open(4))},
		{called(op(api.OpFix, 1), op(api.OpCall)), 1, of(frame(3), open(3), get(3, 5))},
		{called(op(api.OpFix, 1), op(api.OpError), op(api.OpFix)), 1, of(frame(3), open(3), get(3, 5))},
	} {
		s := watch(graph.New())
		m := started(t, s, x.p, x.steps)
		s.forget(-1, fine)
		m.Needs()
		if !slices.Equal(s.calls, x.want) {
			t.Errorf("P2203: %d: %s, want %s", i, strings.Join(s.calls, "; "), strings.Join(x.want, "; "))
		}
	}
}
