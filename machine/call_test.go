package machine

import (
	"fmt"
	"slices"
	"strconv"
	"strings"
	"testing"

	"hearth/api"
	"hearth/graph"
	"hearth/prim"
)

// A call makes a frame of the function, with the arguments as its first locals, and the caller waits at the call.
func TestP2206Call(t *testing.T) {
	p := program(
		fn(0, 1, 0, op(api.OpFix, 1), op(api.OpClosure, 1), op(api.OpFix, 2), op(api.OpFix, 3), op(api.OpCall, 2), op(api.OpCons), op(api.OpHalt)),
		fn(2, 3, 0, op(api.OpLocal, 1), op(api.OpLocal), op(api.OpSub), op(api.OpReturn)))
	each(t, func(t *testing.T, make func() prim.Heap) {
		h := make()
		m := started(t, h, p, 5)
		f, caller := m.frame, word(t, h, m.frame, 1)
		if have := slots(t, h, f); !slices.Equal(have, list{fixed(2), fixed(3), void(), void(), void()}) {
			t.Errorf("P2206: the slots of what is called: %v", have)
		}
		if have := slots(t, h, caller); !slices.Equal(have, list{void(), fixed(1), void(), void(), void()}) {
			t.Errorf("P2206: the slots of the caller: %v", have)
		}
		if raw(t, h, f, 3) != 0 || raw(t, h, f, 4) != 0 || raw(t, h, caller, 3) != 4 || raw(t, h, caller, 4) != 0 {
			t.Errorf("P2206: behind a call: %v", whole(h))
		}
		if b, _ := h.Open(word(t, h, f, 2)); b.Kind != api.KindClosure || b.Tag != 1 {
			t.Errorf("P2206: the closure of the frame: %v", b)
		}
		for range 4 {
			m.Step()
		}
		if m.frame != caller || count(h) != 5 {
			t.Errorf("P2206: behind the return: %v, was %v", m.frame, caller)
		}
		stack(t, "P2206: return", m, 5, fixed(1), fixed(1))
		m.Step()
		m.Step()
		tells(t, "P2206", m.Outcome(), done("(1 . 1)", 11))
	})
}

// A tail call has the link of the frame that makes it, which stays as it is.
func TestP2206Tail(t *testing.T) {
	p := program(
		fn(0, 0, 0, op(api.OpClosure, 1), op(api.OpCall), op(api.OpHalt)),
		fn(0, 0, 0, op(api.OpClosure, 2), op(api.OpFix, 4), op(api.OpTail, 1)),
		fn(1, 1, 0, op(api.OpLocal), op(api.OpReturn)))
	each(t, func(t *testing.T, make func() prim.Heap) {
		h := make()
		m := started(t, h, p, 4)
		tailing := m.frame
		first := word(t, h, tailing, 1)
		before := slots(t, h, tailing)
		m.Step()
		if word(t, h, m.frame, 1) != first || !slices.Equal(slots(t, h, tailing), before) || raw(t, h, tailing, 3) != 2 || raw(t, h, tailing, 4) != 0 {
			t.Errorf("P2206: behind a tail call: %v", whole(h))
		}
		m.Step()
		m.Step()
		if m.frame != first {
			t.Errorf("P2206: the return leads to %v, want %v", m.frame, first)
		}
		m.Step()
		tells(t, "P2206", m.Outcome(), done("4", 8))
		own := program(
			fn(0, 0, 0, op(api.OpClosure, 1), op(api.OpFix, 4), op(api.OpTail, 1)),
			fn(1, 1, 0, op(api.OpLocal), op(api.OpReturn)))
		tells(t, "P2206: a tail call of the first frame", played(t, make(), own, 9), done("4", 5))
	})
}

// What calls and returns write, in its order.
func TestP2206CallOrder(t *testing.T) {
	set := func(v, i int, x val) string { return fmt.Sprint("Set", ref(v), i, x) }
	rawly := func(v, i, x int) string { return fmt.Sprint("SetRaw", ref(v), i, x) }
	made := func(v, link, closure int, args ...val) []string { // what frame.New writes behind its Make
		out := []string{set(v, 1, ref(link)), set(v, 2, ref(closure))}
		for i, x := range args {
			out = append(out, set(v, 5+i, x))
		}
		return out
	}
	all := func(parts ...any) string {
		var out []string
		for _, x := range parts {
			switch x := x.(type) {
			case string:
				out = append(out, x)
			case []string:
				out = append(out, x...)
			}
		}
		return strings.Join(out, "; ")
	}
	byName := map[string]string{
		"call":                   all("Make11 6 1", made(6, 3, 4, ref(5)), set(3, 5, void()), set(3, 6, void())),
		"callcc":                 all("Make7 0 0", set(5, 1, ref(3)), rawly(3, 4, 1), set(3, 5, void()), "Make11 6 1", made(6, 3, 4, ref(5))),
		"return":                 all(set(3, 5, fixed(0)), set(3, 6, void()), rawly(3, 3, 3)),
		"return into a copy":     all("Make11 1 0", set(7, 1, imm(0)), set(7, 2, ref(2)), rawly(7, 3, 1), set(7, 5, void()), set(7, 5, fixed(0)), rawly(7, 3, 2)),
		"the last return":        "",
		"halt":                   "",
		"call of a continuation": all("Make11 1 0", set(7, 1, imm(0)), set(7, 2, ref(2)), rawly(7, 3, 1), set(7, 5, void()), set(7, 5, fixed(0)), rawly(7, 3, 2)),
		"callcc of a continuation": all("Make7 0 0", set(7, 1, ref(6)), rawly(6, 4, 1), set(6, 6, void()),
			"Make11 1 0", set(8, 1, imm(0)), set(8, 2, ref(2)), rawly(8, 3, 1), set(8, 5, void()), set(8, 5, ref(7)), rawly(8, 3, 2)),
	}
	byName["tail call of a continuation"] = byName["call of a continuation"]
	met := 0
	for _, x := range situations() {
		want, there := byName[x.name]
		if !there {
			continue
		}
		met++
		m, s := x.ahead(t, graph.New())
		m.Step()
		if have := strings.Join(s.writes(), "; "); have != want {
			t.Errorf("P2206: %s: %s, want %s", x.name, have, want)
		}
	}
	if met != len(byName) {
		t.Errorf("the test meets %d of %d", met, len(byName))
	}
}

// A callcc: the continuation has the frame, which is shared, and waits; what is called gets the continuation.
func TestP2206CallCC(t *testing.T) {
	p := program(
		fn(0, 1, 0, op(api.OpFix, 1), op(api.OpClosure, 1), op(api.OpCallCC), op(api.OpCons), op(api.OpHalt)),
		fn(1, 1, 0, op(api.OpLocal), op(api.OpReturn)))
	each(t, func(t *testing.T, make func() prim.Heap) {
		h := make()
		m := started(t, h, p, 3)
		k := slots(t, h, m.frame)[0]
		first := word(t, h, m.frame, 1)
		if b, _ := h.Open(k); b.Kind != api.KindCont || word(t, h, k, 1) != first {
			t.Errorf("P2206: the continuation is %v", b)
		}
		if have := slots(t, h, first); !slices.Equal(have, list{void(), fixed(1), void()}) || raw(t, h, first, 3) != 2 || raw(t, h, first, 4) != 1 {
			t.Errorf("P2206: behind callcc the frame has %v", have)
		}
		m.Step()
		needed(t, "P2203", m, 8)
		m.Step()
		if m.frame == first || raw(t, h, first, 3) != 2 {
			t.Errorf("P2206: the return goes on in the frame itself")
		}
		stack(t, "P2206: a return into a copy", m, 3, fixed(1), k)
		m.Step()
		m.Step()
		tells(t, "P2206", m.Outcome(), done("(1 . #<continuation>)", 7))
	})
}

// again is a program that comes back behind its callcc by a continuation that it has put into a global, until the count in a box is n. Each time the local, which was 5 when callcc was made, is added to a global, and turned.
func again(n int) api.Program {
	return program(
		fn(0, 2, 0,
			op(api.OpFix), op(api.OpBox), op(api.OpSetLocal, 1),
			op(api.OpFix, 0), op(api.OpSetGlobal, 1),
			op(api.OpFix, 5), op(api.OpSetLocal, 0),
			op(api.OpFix, 100),                     // stays on the stack
			op(api.OpClosure, 1), op(api.OpCallCC), // 9
			op(api.OpOut), op(api.OpPop), // what came back
			op(api.OpGlobal, 1), op(api.OpLocal, 0), op(api.OpAdd), op(api.OpSetGlobal, 1),
			op(api.OpFix, 77), op(api.OpSetLocal, 0), // no other time sees it
			op(api.OpLocal, 1), op(api.OpLocal, 1), op(api.OpUnbox), op(api.OpFix, 1), op(api.OpAdd), op(api.OpSetBox), op(api.OpPop),
			op(api.OpLocal, 1), op(api.OpUnbox), op(api.OpFix, n), op(api.OpLess), op(api.OpBranch, 35),
			op(api.OpGlobal, 0), op(api.OpLocal, 1), op(api.OpUnbox), op(api.OpCall, 1), op(api.OpPop),
			op(api.OpGlobal, 1), op(api.OpCons), op(api.OpHalt)),
		fn(1, 1, 0, op(api.OpLocal), op(api.OpSetGlobal, 0), op(api.OpImm, 2), op(api.OpReturn)))
}

// A continuation may be called again and again: each time the locals and the stack are as they were when callcc was made, and the heap as it is.
func TestP2206Again(t *testing.T) {
	each(t, func(t *testing.T, make func() prim.Heap) {
		for _, n := range []int{1, 2, 3, 20} {
			log := []string{"#t"}
			for i := 1; i < n; i++ {
				log = append(log, strconv.Itoa(i))
			}
			for _, every := range []int{0, 1, 7} {
				h := make()
				m := started(t, h, again(n), 0)
				for i := 0; m.Step(); i++ {
					if every > 0 && i%every == 0 {
						collect(t, h, m.Roots())
					}
				}
				o := m.Outcome()
				if o.End != api.Done || o.Value != fmt.Sprintf("(100 . %d)", 5*n) || !slices.Equal(o.Log, log) {
					t.Errorf("P2206: %d times: %+v", n, o)
				}
			}
		}
	})
}

// A continuation that was made deep in calls goes back through all frames again, each time in copies of them.
func TestP2206Deep(t *testing.T) {
	// Function 1 goes down n frames and makes a continuation there; on the way up each frame adds its n to the answer.
	p := program(
		fn(0, 1, 0,
			op(api.OpFix), op(api.OpSetGlobal, 1),
			op(api.OpClosure, 1), op(api.OpFix, 10), op(api.OpCall, 1), op(api.OpDup), op(api.OpOut), op(api.OpPop), op(api.OpSetLocal),
			op(api.OpGlobal, 1), op(api.OpFix, 1), op(api.OpAdd), op(api.OpDup), op(api.OpSetGlobal, 1),
			op(api.OpFix, 4), op(api.OpLess), op(api.OpBranch, 20), op(api.OpGlobal), op(api.OpGlobal, 1), op(api.OpTail, 1),
			op(api.OpLocal), op(api.OpHalt)),
		fn(1, 1, 0,
			op(api.OpLocal), op(api.OpFix), op(api.OpEq), op(api.OpBranch, 7),
			op(api.OpClosure, 2), op(api.OpCallCC), op(api.OpReturn),
			op(api.OpLocal), op(api.OpClosure, 1), op(api.OpLocal), op(api.OpFix, 1), op(api.OpSub), op(api.OpCall, 1), op(api.OpAdd), op(api.OpReturn)),
		fn(1, 1, 0, op(api.OpLocal), op(api.OpSetGlobal), op(api.OpFix, 1000), op(api.OpReturn)))
	each(t, func(t *testing.T, make func() prim.Heap) {
		for _, every := range []int{0, 1, 5} {
			h := make()
			m := started(t, h, p, 0)
			for i := 0; m.Step(); i++ {
				if every > 0 && i%every == 0 {
					collect(t, h, m.Roots())
				}
			}
			o := m.Outcome()
			if o.End != api.Done || o.Value != "58" || !slices.Equal(o.Log, []string{"1055", "56", "57", "58"}) {
				t.Errorf("P2206: %+v", o)
			}
		}
	})
}

// A continuation that leads nowhere, which a corruption alone makes: its call ends the run with the argument.
func TestP2206Nowhere(t *testing.T) {
	each(t, func(t *testing.T, make func() prim.Heap) {
		for i, call := range [][]api.Ins{codeOf(op(api.OpFix, 5), op(api.OpCall, 1)), codeOf(op(api.OpFix, 5), op(api.OpTail, 1)), codeOf(op(api.OpCallCC))} {
			h := make()
			m := started(t, h, program(fn(0, 0, 0, op(api.OpGlobal), call, op(api.OpHalt))), 0)
			k, fault := h.Make(api.KindCont, 0, 0)
			sound(t, fault)
			sound(t, h.Set(m.globals, 1, k))
			for range len(call) {
				m.Step()
			}
			if i < 2 {
				needed(t, "P2203", m)
				idle(t, "P2206", h, func() { m.Step() })
				tells(t, "P2206", m.Outcome(), done("5", 3))
				continue
			}
			needed(t, "P2203", m, 2)
			m.Step()
			tells(t, "P2206", m.Outcome(), done("#<continuation>", 2))
			if raw(t, h, m.frame, 4) != 1 || slots(t, h, m.frame)[0] != void() {
				t.Errorf("P2206: callcc ahead of the end: %v", whole(h))
			}
		}
	})
}

// A continuation whose target is the current frame, which a corruption alone makes.
func TestP2206Itself(t *testing.T) {
	each(t, func(t *testing.T, make func() prim.Heap) {
		ready := func(call ...api.Ins) (prim.Heap, *Machine[prim.Heap]) {
			h := make()
			m := started(t, h, program(fn(0, 2, 0, op(api.OpGlobal), call, op(api.OpHalt))), 0)
			k, fault := h.Make(api.KindCont, 0, 0)
			sound(t, fault)
			sound(t, h.Set(k, 1, m.frame))
			sound(t, h.Set(m.globals, 1, k))
			for range len(call) {
				m.Step()
			}
			return h, m
		}
		h, m := ready(op(api.OpCallCC)) // the frame is not shared ahead of it, but when it is returned into
		old := m.frame
		needed(t, "P2203", m, 2, 8)
		m.Step()
		if m.frame == old || raw(t, h, old, 4) != 1 || raw(t, h, m.frame, 4) != 0 {
			t.Errorf("P2206: callcc into itself: %v", whole(h))
		}
		k := slots(t, h, m.frame)[2]
		stack(t, "P2206", m, 2, k)
		if word(t, h, k, 1) != old {
			t.Errorf("P2206: the new continuation has %v", word(t, h, k, 1))
		}

		h, m = ready(op(api.OpCallCC))
		sound(t, h.SetRaw(m.frame, 4, -7)) // shared already: no other need
		needed(t, "P2203", m, 2, 8)

		h, m = ready(op(api.OpFix, 5), op(api.OpCall, 1)) // a call goes on in the frame itself, as long as it is not shared
		old = m.frame
		needed(t, "P2203", m)
		m.Step()
		if m.frame != old || count(h) != 4 {
			t.Errorf("P2206: a call into itself: %v, was %v", m.frame, old)
		}
		stack(t, "P2206", m, 3, fixed(5))

		_, m = ready(op(api.OpFix, 5), op(api.OpTail, 1)) // at a tail call nobody waits
		needed(t, "P2203", m)
		m.Step()
		tells(t, "P2206", m.Outcome(), failure(api.ErrCall, 0, 3))
	})
}

// A callcc of a continuation: the frame that makes it is shared and waits from then on; the continuation's own frame gets the new one as its answer.
func TestP2206CallCCOfContinuation(t *testing.T) {
	p := program(
		fn(0, 0, 0, op(api.OpClosure, 1), op(api.OpCallCC), op(api.OpHalt)),
		fn(1, 1, 0, op(api.OpLocal), op(api.OpCallCC), op(api.OpReturn)))
	each(t, func(t *testing.T, make func() prim.Heap) {
		h := make()
		m := started(t, h, p, 3)
		inner := m.frame
		needed(t, "P2203", m, 2, 6)
		m.Step()
		if raw(t, h, inner, 4) != 1 || raw(t, h, inner, 3) != 1 || slots(t, h, inner)[1] != void() {
			t.Errorf("P2206: the frame that makes it: %v", whole(h))
		}
		k := slots(t, h, m.frame)[0]
		if word(t, h, k, 1) != inner {
			t.Errorf("P2206: the new continuation has %v, want %v", word(t, h, k, 1), inner)
		}
		stack(t, "P2206", m, 2, k)
		m.Step()
		tells(t, "P2206", m.Outcome(), done("#<continuation>", 5))
	})
}

// A loop by tail calls, and a recursion without them, are as deep as they are.
func TestP2206Loops(t *testing.T) {
	loop := program(
		fn(0, 0, 0, op(api.OpClosure, 1), op(api.OpFix, 20000), op(api.OpTail, 1)),
		fn(1, 1, 0, op(api.OpLocal), op(api.OpFix), op(api.OpEq), op(api.OpBranch, 6), op(api.OpFix, 7), op(api.OpReturn),
			op(api.OpClosure, 1), op(api.OpLocal), op(api.OpFix, 1), op(api.OpSub), op(api.OpTail, 1)))
	h := arena(t, 6)
	m := started(t, h, loop, 0)
	for {
		if sizes, _ := m.Needs(); !h.Fits(sizes...) {
			collect(t, h, m.Roots())
			m.Collected()
		}
		if !m.Step() {
			break
		}
	}
	if o := m.Outcome(); o.End != api.Done || o.Value != "7" || len(o.Collections) < 100 {
		t.Errorf("P2206: %v, %v, %d collections", o.End, o.Value, len(o.Collections))
	}
	deep := program(
		fn(0, 0, 0, op(api.OpClosure, 1), op(api.OpFix, 20000), op(api.OpCall, 1), op(api.OpHalt)),
		fn(1, 1, 0, op(api.OpLocal), op(api.OpFix), op(api.OpEq), op(api.OpBranch, 6), op(api.OpFix), op(api.OpReturn),
			op(api.OpLocal), op(api.OpClosure, 1), op(api.OpLocal), op(api.OpFix, 1), op(api.OpSub), op(api.OpCall, 1), op(api.OpAdd), op(api.OpReturn)))
	o := played(t, graph.New(), deep, 1000000)
	if o.End != api.Done || o.Value != "200010000" {
		t.Errorf("P2206: %+v", o)
	}
}
