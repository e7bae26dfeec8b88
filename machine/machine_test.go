package machine

import (
	"fmt"
	"reflect"
	"slices"
	"strconv"
	"testing"

	"hearth/api"
	"hearth/check"
	"hearth/graph"
	"hearth/prim"
)

// The chapter's examples.
func TestExamples(t *testing.T) {
	each(t, func(t *testing.T, make func() prim.Heap) {
		for i, x := range []struct {
			globals, steps int
			code           []api.Ins
			want           api.Outcome
		}{
			{0, 2, codeOf(op(api.OpFix, 5), op(api.OpReturn)), done("5", 2)},
			{0, 4, codeOf(op(api.OpFix, 1), op(api.OpFix, 2), op(api.OpCons), op(api.OpHalt)), done("(1 . 2)", 4)},
			{0, 4, codeOf(op(api.OpImm, 1), op(api.OpBranch, 4), op(api.OpFix), op(api.OpError), op(api.OpFix, 7), op(api.OpHalt)), done("7", 4)},
			{0, 2, codeOf(op(api.OpFix, 3), op(api.OpError)), failure(api.ErrUser, 3, 2)},
			{1, 1, codeOf(op(api.OpGlobal), op(api.OpReturn)), failure(api.ErrUnbound, 0, 1)},
			{0, 2, codeOf(op(api.OpFix, 1), op(api.OpCall), op(api.OpReturn)), failure(api.ErrCall, 0, 2)},
			{0, 9, codeOf(op(api.OpJump)), api.Outcome{Steps: 9}},
		} {
			p := api.Program{Globals: x.globals, Funcs: []api.Func{{Code: x.code}}}
			m := started(t, make(), p, x.steps)
			tells(t, "example "+strconv.Itoa(i), m.Outcome(), x.want)
			if again := m.Step(); again != (x.want.End == api.Running) {
				t.Errorf("example %d: a step more: %v", i, again)
			}
		}
		p := api.Program{Funcs: []api.Func{
			fn(0, 0, 0, op(api.OpClosure, 1), op(api.OpCallCC), op(api.OpReturn)),
			fn(1, 1, 0, op(api.OpLocal), op(api.OpFix, 9), op(api.OpCall, 1), op(api.OpReturn)),
		}}
		tells(t, "the last example", played(t, make(), p, 50), done("9", 6))
	})
	m := started(t, graph.New(), plainly(op(api.OpJump)), 0)
	if !slices.Equal(m.Roots(), list{ref(3), ref(1)}) {
		t.Errorf("the examples: the roots are %v", m.Roots())
	}
}

// The examples of DOC.md that a machine can tell by itself.
func TestExamplesOfTheDocument(t *testing.T) {
	each(t, func(t *testing.T, make func() prim.Heap) {
		for i, x := range []struct {
			p    api.Program
			want api.Outcome
		}{
			{plainly(op(api.OpFix, 1), op(api.OpFix, 2), op(api.OpCons), op(api.OpDup), op(api.OpOut), op(api.OpPop), op(api.OpHalt)),
				api.Outcome{End: api.Done, Value: "(1 . 2)", Steps: 7, Log: []string{"(1 . 2)"}}},
			{plainly(op(api.OpFix, api.MostFix), op(api.OpFix, 1), op(api.OpAdd), op(api.OpReturn)), done("-1152921504606846976", 4)},
			{plainly(op(api.OpTable), op(api.OpDup), op(api.OpFix, 7), op(api.OpFix, 8), op(api.OpTablePut), op(api.OpPop), op(api.OpDup), op(api.OpFix, 7), op(api.OpImm, 1), op(api.OpTableGet), op(api.OpReturn)),
				done("8", 11)},
			{plainly(op(api.OpFix, 1), op(api.OpFix), op(api.OpQuot), op(api.OpReturn)), failure(api.ErrDivide, 0, 3)},
		} {
			tells(t, "example "+strconv.Itoa(i), played(t, make(), x.p, 20), x.want)
		}
		for _, collected := range []bool{false, true} {
			h := make()
			m := started(t, h, plainly(op(api.OpFix, 1), op(api.OpFix, 2), op(api.OpCons), op(api.OpImm, 3), op(api.OpWeakCons), op(api.OpWeakCar), op(api.OpReturn)), 5)
			want := done("(1 . 2)", 7)
			if collected {
				collect(t, h, m.Roots())
				m.Collected()
				want = done("#!broken", 7)
				want.Collections = []int{5}
			}
			m.Step()
			m.Step()
			tells(t, "example 5", m.Outcome(), want)
		}
	})
}

// unlike are all sorts of what is not known of a program.
func unlike(c api.Checked) []api.Checked {
	with := func(turn func(c *api.Checked)) api.Checked {
		x := api.Checked{Slots: slices.Clone(c.Slots)}
		for _, d := range c.Depths {
			x.Depths = append(x.Depths, slices.Clone(d))
		}
		turn(&x)
		return x
	}
	last := len(c.Slots) - 1
	return []api.Checked{
		{}, {Slots: c.Slots}, {Depths: c.Depths},
		with(func(c *api.Checked) { c.Slots[0]++ }),
		with(func(c *api.Checked) { c.Slots[last]-- }),
		with(func(c *api.Checked) { c.Slots = append(c.Slots, 0) }),
		with(func(c *api.Checked) { c.Slots = c.Slots[:last] }),
		with(func(c *api.Checked) { c.Depths[0][0]++ }),
		with(func(c *api.Checked) { c.Depths[last][1]-- }),
		with(func(c *api.Checked) { c.Depths[last] = append(c.Depths[last], 0) }),
		with(func(c *api.Checked) { c.Depths[0] = c.Depths[0][1:] }),
		with(func(c *api.Checked) { c.Depths = append(c.Depths, nil) }),
		with(func(c *api.Checked) { c.Depths = c.Depths[:last] }),
		with(func(c *api.Checked) { c.Depths[last] = nil }),
	}
}

// twoFunctions is a program with something in each of its parts.
func twoFunctions() api.Program {
	return program(
		fn(0, 2, 0, op(api.OpFix, 5), op(api.OpClosure, 1), op(api.OpFix, 6), op(api.OpCall, 1), op(api.OpReturn)),
		fn(1, 1, 1, op(api.OpLocal), op(api.OpCaptured), op(api.OpAdd), op(api.OpText, 1), op(api.OpOut), op(api.OpPop), op(api.OpReturn)),
	)
}

// refused are programs that Check does not take.
func refused() []api.Program {
	return []api.Program{
		{}, {Globals: 65, Funcs: []api.Func{{Code: codeOf(op(api.OpFix), op(api.OpHalt))}}}, {Globals: -1, Funcs: []api.Func{{Code: codeOf(op(api.OpFix), op(api.OpHalt))}}},
		plainly(), plainly(op(api.OpPop), op(api.OpHalt)), plainly(op(api.OpFix)), plainly(op(api.OpJump, 5)), plainly(op(0)), plainly(op(api.OpImm, 5), op(api.OpHalt)),
		program(fn(1, 1, 0, op(api.OpJump))), program(fn(0, 0, 1, op(api.OpJump))), program(fn(0, 65, 0, op(api.OpJump))), program(fn(0, 0, 0, op(api.OpJump)), fn(0, 0, 0)),
	}
}

func TestP2201(t *testing.T) {
	for _, x := range []struct {
		globals int
		f       api.Func
		want    []int
	}{
		{0, fn(0, 0, 0, op(api.OpJump)), []int{1, 1, 5}},
		{1, fn(0, 0, 0, op(api.OpFix, 1), op(api.OpHalt)), []int{2, 1, 6}},
		{64, fn(0, 64, 0, op(api.OpJump)), []int{65, 1, 69}},
		{7, fn(0, 64, 0, slices.Repeat(codeOf(op(api.OpFix)), 64), op(api.OpHalt)), []int{8, 1, 133}},
	} {
		p := api.Program{Globals: x.globals, Funcs: []api.Func{x.f, fn(8, 60, 0, op(api.OpJump))}}
		if have := Start(p, known(t, p)); !slices.Equal(have, x.want) {
			t.Errorf("P2201: %v, want %v", have, x.want)
		}
	}
	p := twoFunctions()
	for i, c := range unlike(known(t, p)) {
		if have := Start(p, c); len(have) > 0 {
			t.Errorf("P2201: not what is known of it, %d: %v", i, have)
		}
	}
	for i, p := range refused() {
		c, _, _, errno := check.Check(p)
		if errno == api.OK {
			t.Fatalf("program %d of the test is taken", i)
		}
		for _, c := range []api.Checked{c, known(t, plainly(op(api.OpJump))), {Slots: []int{0}, Depths: [][]int{nil}}} {
			if have := Start(p, c); len(have) > 0 {
				t.Errorf("P2201: program %d: %v", i, have)
			}
		}
	}
}

// What Start tells is what New makes.
func TestP2201AsNew(t *testing.T) {
	p := twoFunctions()
	sizes := Start(p, known(t, p))
	for pages := 1; pages < 5; pages++ {
		h := arena(t, pages)
		fits := h.Fits(sizes...)
		m, fault := New(h, p, known(t, p))
		if (m != nil) != fits || fits && fault != fine || !fits && fault != (api.Fault{Err: api.ErrFull}) {
			t.Errorf("P2201: %d pages: %v, fits: %v", pages, fault, fits)
		}
		var have []int
		for _, b := range slices.SortedFunc(h.All(), func(a, b api.Block) int { return a.Serial - b.Serial }) {
			have = append(have, b.Size)
		}
		if !slices.Equal(have, sizes[:len(have)]) || fits && len(have) != 3 {
			t.Errorf("P2201: %d pages: made %v, told %v", pages, have, sizes)
		}
	}
}

func TestP2202(t *testing.T) {
	each(t, func(t *testing.T, make func() prim.Heap) {
		for _, p := range []api.Program{twoFunctions(), plainly(op(api.OpFix, 1), op(api.OpHalt)), {Funcs: []api.Func{fn(0, 0, 0, op(api.OpJump))}}, {Globals: 64, Funcs: []api.Func{fn(0, 64, 0, op(api.OpJump))}}} {
			s := watch(make())
			c := known(t, p)
			m := started(t, s, p, 0)
			f, globals := m.Roots()[0], m.Roots()[1]
			closure := word(t, s.heap, f, 2)
			writes := []string{fmt.Sprint("Make", 3, p.Globals, 0)}
			for i := range p.Globals {
				writes = append(writes, fmt.Sprint("Set", globals, 1+i, imm(5)))
			}
			writes = append(writes, "Make6 0 0", fmt.Sprint("Make", 11, c.Slots[0], 0))
			if have := s.writes(); !slices.Equal(have[:len(writes)], writes) {
				t.Errorf("P2202: %v, want %v", have, writes)
			}
			for i := range p.Globals {
				if x := word(t, s.heap, globals, 1+i); x != imm(5) {
					t.Errorf("P2202: the global %d is %v", i, x)
				}
			}
			for v, want := range map[val]api.Block{globals: {Kind: 3, Size: 1 + p.Globals, Serial: 1}, closure: {Kind: 6, Size: 1, Serial: 2}, f: {Kind: 11, Size: 5 + c.Slots[0], Serial: 3}} {
				b, _ := s.heap.Open(v)
				want.At = v.N
				if b != want {
					t.Errorf("P2202: %v, want %v", b, want)
				}
			}
			if word(t, s.heap, f, 1) != imm(0) || raw(t, s.heap, f, 3) != 0 || raw(t, s.heap, f, 4) != 0 || slices.ContainsFunc(slots(t, s.heap, f), func(x val) bool { return x != void() }) {
				t.Errorf("P2202: the frame is %v", whole(s))
			}
			tells(t, "P2202", m.Outcome(), api.Outcome{})
		}
	})
}

func TestP2202NotKnown(t *testing.T) {
	each(t, func(t *testing.T, make func() prim.Heap) {
		h := make()
		refuses := func(p api.Program, c api.Checked) {
			t.Helper()
			idle(t, "P2202", h, func() {
				if m, fault := New(h, p, c); m != nil || fault != (api.Fault{Err: api.ErrArg}) {
					t.Errorf("P2202: %v, %v", m, fault)
				}
			})
		}
		for _, c := range unlike(known(t, twoFunctions())) {
			refuses(twoFunctions(), c)
		}
		for _, p := range refused() {
			c, _, _, _ := check.Check(p)
			refuses(p, c)
			refuses(p, known(t, plainly(op(api.OpJump))))
		}
	})
}

// A fault of any call of the heap is New's, and nothing is done behind it; what was made stays.
func TestP2202Faults(t *testing.T) {
	each(t, func(t *testing.T, make func() prim.Heap) {
		p := twoFunctions()
		c := known(t, p)
		for _, f := range []api.Fault{wrongAt(77), {Err: api.ErrFull}, {Err: api.ErrType}, {Err: api.ErrCall}} {
			asked := 0
			for ; ; asked++ {
				s := watch(make())
				s.forget(asked, f)
				m, fault := New(s, p, c)
				if len(s.calls) <= asked {
					if m == nil || fault != fine {
						t.Errorf("P2202: %v without a fault", fault)
					}
					break
				}
				if m != nil || fault != f || len(s.calls) != asked+1 {
					t.Errorf("P2202: with %v at %v: %v, %v, then %v", f, s.calls[asked], m, fault, s.calls[asked+1:])
				}
				made := 0
				for _, call := range s.calls[:asked] {
					if call[:4] == "Make" {
						made++
					}
				}
				if have := count(s); have != made {
					t.Errorf("P2202: %d objects are left of %d", have, made)
				}
			}
			if asked < 8 {
				t.Errorf("P2202: New asks %d calls of the heap", asked)
			}
		}
	})
}

// count is how many objects a heap has.
func count(h any) int {
	switch x := whole(h).(type) {
	case api.Dump:
		return len(x.Blocks)
	case api.Graph:
		return len(x.Nodes)
	}
	return -1
}

// What is handed in is not kept: neither does it turn the run, when it is turned later, nor does the run turn it.
func TestP2202NotKept(t *testing.T) {
	each(t, func(t *testing.T, make func() prim.Heap) {
		p, kept := twoFunctions(), twoFunctions()
		c := known(t, p)
		m, fault := New(make(), p, c)
		sound(t, fault)
		for m.Step() {
		}
		if !reflect.DeepEqual(p, kept) || !reflect.DeepEqual(c, known(t, kept)) {
			t.Errorf("P2202: the program has changed: %v, %v", p, c)
		}
		want := m.Outcome()
		m, fault = New(make(), p, c)
		sound(t, fault)
		p.Globals = 0
		for i := range p.Texts {
			clear(p.Texts[i])
			p.Texts[i] = nil
		}
		for i := range p.Funcs {
			clear(p.Funcs[i].Code)
			p.Funcs[i] = api.Func{}
			clear(c.Depths[i])
			c.Slots[i], c.Depths[i] = 9, nil
		}
		for m.Step() {
		}
		tells(t, "P2202", m.Outcome(), want)
		if want.Log[0] != `"hearth"` {
			t.Errorf("the test's program: %+v", want)
		}
	})
}

func TestP2204(t *testing.T) {
	each(t, func(t *testing.T, make func() prim.Heap) {
		m := started(t, make(), plainly(op(api.OpFix, 1), op(api.OpFix, 2), op(api.OpCons), op(api.OpHalt)), 0)
		for _, want := range [][]int{nil, nil, {3}, nil} {
			needed(t, "P2204", m, want...)
			needed(t, "P2204", m, want...)
			m.Step()
		}
		needed(t, "P2204: Done", m)
		for _, end := range []int{api.OutOfMemory, api.OutOfFuel, api.Corrupt} {
			m = started(t, make(), plainly(op(api.OpFlo), op(api.OpHalt)), 0)
			needed(t, "P2204", m, 2)
			m.Stop(end, 7)
			needed(t, "P2204: stopped", m)
		}
		m = started(t, make(), plainly(op(api.OpFix, 1), op(api.OpCar), op(api.OpFlo), op(api.OpHalt)), 1)
		needed(t, "P2204: going to fail", m)
		m.Step()
		needed(t, "P2204: failed", m)
		tells(t, "P2204", m.Outcome(), failure(api.ErrType, 1, 2))
	})
	h := arena(t, 20)
	m := started(t, h, plainly(op(api.OpFlo), op(api.OpHalt)), 0)
	h.Poke(m.frame.N+3, 2)
	for range 2 {
		idle(t, "P2204", h, func() {
			if sizes, fault := m.Needs(); len(sizes) > 0 || fault != wrongAt(m.frame.N+3) {
				t.Errorf("P2204: a look's fault: %v, %v", sizes, fault)
			}
		})
	}
	tells(t, "P2204", m.Outcome(), api.Outcome{})
	m.Step()
	needed(t, "P2204: Corrupt", m)
}

// roomless are instructions that need room, behind so many others that need none.
func roomless() map[string]struct {
	p     api.Program
	steps int
	sizes []int
} {
	type x = struct {
		p     api.Program
		steps int
		sizes []int
	}
	calls := func(parts ...any) api.Program {
		return program(fn(0, 3, 0, parts...), fn(1, 1, 0, op(api.OpLocal), op(api.OpReturn)))
	}
	return map[string]x{
		"text":    {plainly(op(api.OpText, 2), op(api.OpHalt)), 0, []int{5}},
		"flo":     {plainly(op(api.OpFlo, 3), op(api.OpHalt)), 0, []int{2}},
		"closure": {plainly(op(api.OpClosure), op(api.OpHalt)), 0, []int{1}},
		"cons":    {plainly(op(api.OpFix), op(api.OpDup), op(api.OpCons), op(api.OpHalt)), 2, []int{3}},
		"vector":  {plainly(op(api.OpFix, 40), op(api.OpDup), op(api.OpVector), op(api.OpHalt)), 2, []int{41}},
		"table":   {plainly(op(api.OpTable), op(api.OpHalt)), 0, []int{3}},
		"call":    {calls(op(api.OpClosure, 1), op(api.OpFix), op(api.OpCall, 1), op(api.OpHalt)), 2, []int{7}},
		"tail":    {calls(op(api.OpClosure, 1), op(api.OpFix), op(api.OpTail, 1)), 2, []int{7}},
		"callcc":  {calls(op(api.OpClosure, 1), op(api.OpCallCC), op(api.OpHalt)), 1, []int{2, 7}},
		"return":  {calls(op(api.OpClosure, 1), op(api.OpCallCC), op(api.OpHalt)), 3, []int{9}},
	}
}

// Where what is needed does not fit, the run ends, and nothing is done.
func TestP2205OutOfMemory(t *testing.T) {
	each(t, func(t *testing.T, make func() prim.Heap) {
		for name, x := range roomless() {
			s := watch(make())
			m := started(t, s, x.p, x.steps)
			var asked [][]int
			s.full = func(sizes []int) bool {
				asked = append(asked, slices.Clone(sizes))
				return len(sizes) > 0
			}
			needed(t, "P2205: "+name, m, x.sizes...)
			roots := m.Roots()
			idle(t, "P2205: "+name, s, func() {
				if m.Step() || m.Step() {
					t.Errorf("P2205: %s: a step without room", name)
				}
			})
			if len(asked) != 1 || !slices.Equal(asked[0], x.sizes) {
				t.Errorf("P2205: %s: Fits was asked for %v, want %v", name, asked, x.sizes)
			}
			tells(t, "P2205: "+name, m.Outcome(), api.Outcome{End: api.OutOfMemory, Steps: x.steps})
			if !slices.Equal(m.Roots(), roots) {
				t.Errorf("P2205: %s: the roots are %v, were %v", name, m.Roots(), roots)
			}
		}
	})
}

// A tight arena: where a step ends OutOfMemory, and only there, its needs do not fit.
func TestP2205Tight(t *testing.T) {
	grow := plainly(op(api.OpImm), op(api.OpSetLocal), op(api.OpFix, 1), op(api.OpLocal), op(api.OpCons), op(api.OpSetLocal), op(api.OpJump, 2))
	for pages := 3; pages < 9; pages++ {
		h := arena(t, pages)
		m := started(t, h, grow, 0)
		for {
			sizes, fault := m.Needs()
			sound(t, fault)
			fits := h.Fits(sizes...)
			if m.Step() != fits {
				t.Fatalf("P2205: needs %v, fits: %v: %+v", sizes, fits, m.Outcome())
			}
			if !fits {
				break
			}
		}
		pairs := 16 * (pages - 3) // three pages have what New makes
		// The pair that does not fit is asked for behind five instructions for each of the others, two ahead of the loop, two in it.
		tells(t, "P2205", m.Outcome(), api.Outcome{End: api.OutOfMemory, Steps: 5*pairs + 4})
	}
}

// An instruction that is going to fail needs no room.
func TestP2205FailsWithoutRoom(t *testing.T) {
	each(t, func(t *testing.T, make func() prim.Heap) {
		for i, x := range []struct {
			p    api.Program
			want api.Outcome
		}{
			{plainly(op(api.OpFix, 1024), op(api.OpDup), op(api.OpVector), op(api.OpHalt)), failure(api.ErrRange, 1024, 3)},
			{plainly(op(api.OpFix), op(api.OpDup), op(api.OpFloAdd), op(api.OpHalt)), failure(api.ErrType, 1, 3)},
			{plainly(op(api.OpFix), op(api.OpDup), op(api.OpDup), op(api.OpTablePut), op(api.OpHalt)), failure(api.ErrType, 1, 4)},
			{program(fn(0, 0, 0, op(api.OpClosure, 1), op(api.OpCallCC), op(api.OpHalt)), fn(0, 0, 0, op(api.OpJump))), failure(api.ErrArity, 1, 2)},
			{plainly(op(api.OpFix), op(api.OpCallCC), op(api.OpHalt)), failure(api.ErrCall, 0, 2)},
		} {
			s := watch(make())
			m := started(t, s, x.p, x.want.Steps-1)
			s.full = func(sizes []int) bool { return true }
			idle(t, "P2205", s, func() {
				if !m.Step() {
					t.Errorf("P2205: program %d: no step", i)
				}
			})
			tells(t, "P2205: program "+strconv.Itoa(i), m.Outcome(), x.want)
		}
	})
}

func TestP2205Ended(t *testing.T) {
	each(t, func(t *testing.T, make func() prim.Heap) {
		for _, p := range []api.Program{
			plainly(op(api.OpFix, 1), op(api.OpHalt)), plainly(op(api.OpFix, 1), op(api.OpReturn)), plainly(op(api.OpFix, 1), op(api.OpError)), plainly(op(api.OpFix, 1), op(api.OpCar), op(api.OpHalt)),
		} {
			h := make()
			m := started(t, h, p, 2)
			want := m.Outcome()
			roots := m.Roots()
			idle(t, "P2205", h, func() {
				for range 3 {
					if m.Step() {
						t.Errorf("P2205: a step behind the end: %+v", m.Outcome())
					}
					m.Collected()
					m.Stop(api.OutOfFuel, 0)
				}
			})
			tells(t, "P2205", m.Outcome(), want)
			if !slices.Equal(m.Roots(), roots) {
				t.Errorf("P2208: the roots are %v, were %v", m.Roots(), roots)
			}
		}
	})
}

func TestP2207Stop(t *testing.T) {
	p := plainly(op(api.OpFix, 1), op(api.OpDup), op(api.OpOut), op(api.OpPop), op(api.OpPop), op(api.OpJump))
	each(t, func(t *testing.T, make func() prim.Heap) {
		for _, at := range []int{0, 1, -1, 77, most, least} {
			for _, end := range []int{api.OutOfMemory, api.OutOfFuel, api.Corrupt} {
				h := make()
				m := started(t, h, p, 4)
				m.Collected()
				want := api.Outcome{End: end, Steps: 4, Log: []string{"1"}, Collections: []int{4}}
				if end == api.Corrupt {
					want.At = at
				}
				idle(t, "P2207", h, func() { m.Stop(end, at) })
				tells(t, "P2207", m.Outcome(), want)
				for other := -1; other < 8; other++ {
					m.Stop(other, 5)
				}
				m.Collected()
				if m.Step() {
					t.Errorf("P2207: a step behind the end")
				}
				tells(t, "P2207: stopped again", m.Outcome(), want)
			}
			for _, end := range []int{api.Running, api.Done, api.Failed, api.Rejected, -1, 7, most, least} {
				m := started(t, make(), p, 4)
				m.Stop(end, at)
				tells(t, "P2207: no such end", m.Outcome(), api.Outcome{Steps: 4, Log: []string{"1"}})
				if !m.Step() {
					t.Errorf("P2207: %d has ended the run", end)
				}
			}
		}
	})
}

func TestP2207Collected(t *testing.T) {
	m := started(t, graph.New(), plainly(op(api.OpFix, 1), op(api.OpPop), op(api.OpJump)), 0)
	m.Collected()
	m.Step()
	m.Step()
	m.Collected()
	m.Collected()
	m.Step()
	m.Collected()
	tells(t, "P2207", m.Outcome(), api.Outcome{Steps: 3, Collections: []int{0, 2, 2, 3}})
	m.Stop(api.OutOfFuel, 0)
	m.Collected()
	tells(t, "P2207", m.Outcome(), api.Outcome{End: api.OutOfFuel, Steps: 3, Collections: []int{0, 2, 2, 3}})
}

// Each end tells its own parts alone, beside the steps, the log and the collections.
func TestP2208(t *testing.T) {
	logs := codeOf(op(api.OpFix, 1), op(api.OpOut), op(api.OpPop))
	ends := map[int]api.Outcome{
		api.Done:    {Value: "#\\A"},
		api.Failed:  {Err: api.ErrUser, N: -8},
		api.Corrupt: {At: 6},
	}
	for end, want := range ends {
		m := started(t, graph.New(), plainly(logs, op(api.OpChar, 65), op(api.OpHalt)), 4)
		if end == api.Failed {
			m = started(t, graph.New(), plainly(logs, op(api.OpFix, -8), op(api.OpError)), 4)
		}
		if end == api.Corrupt {
			sound(t, m.heap.SetRaw(m.frame, 3, 9)) // a pc that is none; the frame is the node 3
		}
		tells(t, "P2208", m.Outcome(), api.Outcome{Steps: 4, Log: []string{"1"}})
		m.Collected()
		if !m.Step() {
			t.Errorf("P2205: no step ends the run")
		}
		want.End, want.Steps, want.Log, want.Collections = end, 5, []string{"1"}, []int{4}
		tells(t, "P2208", m.Outcome(), want)
		if !slices.Equal(m.Roots(), list{ref(3), ref(1)}) {
			t.Errorf("P2208: the roots are %v", m.Roots())
		}
	}
}

// The roots follow the current frame; by them the whole run lives.
func TestP2208Roots(t *testing.T) {
	each(t, func(t *testing.T, make func() prim.Heap) {
		h := make()
		m := started(t, h, twoFunctions(), 3)
		first := m.Roots()
		m.Step()
		second := m.Roots()
		if first[0] == second[0] || first[1] != second[1] || word(t, h, second[0], 1) != first[0] {
			t.Errorf("P2208: %v, then %v", first, second)
		}
		for range 7 {
			collect(t, h, m.Roots())
			m.Step()
		}
		if !slices.Equal(m.Roots(), first) {
			t.Errorf("P2208: behind the return %v, was %v", m.Roots(), first)
		}
		collect(t, h, m.Roots())
		m.Step()
		tells(t, "P2208", m.Outcome(), api.Outcome{End: api.Done, Value: "11", Steps: 12, Log: []string{`"hearth"`}})
		if !slices.Equal(m.Roots(), first) {
			t.Errorf("P2208: behind the end %v, was %v", m.Roots(), first)
		}
	})
}

// Since leaves out what came first of the log and of the collections, and is new memory.
func TestSince(t *testing.T) {
	m := started(t, graph.New(), plainly(op(api.OpFix, 7), op(api.OpOut), op(api.OpPop), op(api.OpFix, 8), op(api.OpOut), op(api.OpPop), op(api.OpJump, 0)), 2)
	m.Collected()
	for range 3 {
		m.Step()
	}
	m.Collected()
	m.Collected()
	for texts, log := range [][]string{{"7", "8"}, {"8"}, {}, {}} {
		for n, collections := range [][]int{{2, 5, 5}, {5, 5}, {5}, {}, {}} {
			tells(t, "Since", m.Since(texts, n), api.Outcome{Steps: 5, Log: log, Collections: collections})
		}
	}
	for _, n := range []int{least, -1, 0} {
		tells(t, "Since", m.Since(n, n), m.Outcome())
	}
	tells(t, "Since", m.Since(most, most), api.Outcome{Steps: 5})
	o := m.Since(1, 1)
	o.Log[0], o.Collections[0] = "x", 9
	_, _ = append(m.Since(0, 0).Log[:1], "x"), append(m.Since(2, 3).Collections, 9)
	tells(t, "rule 3: Since", m.Outcome(), api.Outcome{Steps: 5, Log: []string{"7", "8"}, Collections: []int{2, 5, 5}})
}
