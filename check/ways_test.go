package check

import (
	"math/rand"
	"slices"
	"testing"

	"hearth/api"
)

// deep is a program whose last function puts so many values on the stack, and has then these instructions. What a closure of the function 1 captures are three values.
func deep(n int, behind ...api.Ins) api.Program {
	captured := api.Func{Captures: 3, Code: good().Code}
	return api.Program{Globals: 9, Texts: make([][]byte, 9), Funcs: []api.Func{good(), captured, {Locals: 9, Captures: 2, Code: times(n, fix(), behind...)}}}
}

// instructions are all that there are, each with the operands that may turn what it takes.
func instructions() []api.Ins {
	var list []api.Ins
	for n := range 76 {
		switch {
		case !isOp(n):
		case n == api.OpCall || n == api.OpTail:
			for a := range 9 {
				list = append(list, op(n, a))
			}
		case n == api.OpClosure:
			list = append(list, op(n, 0), op(n, 1), op(n, 2))
		default:
			list = append(list, op(n))
		}
	}
	return list
}

// With as much as it takes, and with more, an instruction is taken; with less it is refused.
func TestP1904Takes(t *testing.T) {
	for _, in := range instructions() {
		for depth := range 12 {
			at := in
			if jumps(in.Op) {
				at.A = depth + 1
			}
			p := deep(depth, at, jump(depth+1))
			if depth < plainTakes(p, in) {
				refused(t, "P1904", p, 2, depth, api.ErrUnder)
			} else {
				taken(t, "P1904", p)
			}
		}
	}
}

// The instruction behind another one has the depth that the table tells, or none.
func TestP1904Puts(t *testing.T) {
	for _, in := range instructions() {
		at := in
		if jumps(in.Op) {
			at.A = 11
		}
		p := deep(10, at, jump(11))
		want := 10 - plainTakes(p, in) + plainPuts(in.Op)
		if in.Op != api.OpJump && len(plainNext(0, in)) == 0 {
			want = -1
		}
		c, _, _, errno := Check(p)
		if errno != api.OK || c.Depths[2][10] != 10 || c.Depths[2][11] != want {
			t.Errorf("P1904: %v: %v, %v; want %d", in, c, errno, want)
		}
	}
}

// The table's instructions once more, by their names: what they leave of five.
func TestP1904Names(t *testing.T) {
	leave := map[int][]int{
		6: {api.OpFix, api.OpChar, api.OpImm, api.OpText, api.OpFlo, api.OpLocal, api.OpCaptured, api.OpGlobal, api.OpDup, api.OpTable},
		5: {api.OpSwap, api.OpCallCC, api.OpCall, api.OpCar, api.OpCdr, api.OpBox, api.OpUnbox, api.OpVectorLen, api.OpTextLen, api.OpKind, api.OpNot,
			api.OpToFlo, api.OpToFix, api.OpCharFix, api.OpFixChar, api.OpWeakCar, api.OpWeakCdr, api.OpEphKey, api.OpEphVal, api.OpTableCount, api.OpOut},
		4: {api.OpSetLocal, api.OpSetGlobal, api.OpPop, api.OpCons, api.OpSetCar, api.OpSetCdr, api.OpSetBox, api.OpVector, api.OpVectorRef, api.OpTextRef, api.OpTextEq, api.OpEq,
			api.OpAdd, api.OpSub, api.OpMul, api.OpQuot, api.OpRem, api.OpLess, api.OpFloAdd, api.OpFloSub, api.OpFloMul, api.OpFloDiv, api.OpFloLess,
			api.OpWeakCons, api.OpSetWeakCdr, api.OpEph, api.OpTableDel},
		3:  {api.OpVectorSet, api.OpTableGet, api.OpTablePut},
		-1: {api.OpTail, api.OpReturn, api.OpHalt, api.OpError},
	}
	told := 0
	for want, list := range leave {
		for _, n := range list {
			told++
			p := deep(5, op(n), jump(6))
			if c, _, _, errno := Check(p); errno != api.OK || c.Depths[2][6] != want {
				t.Errorf("P1904: instruction %d: %v, %v; want %d", n, c, errno, want)
			}
		}
	}
	if told != 68-3 { // jump, branch and closure stand elsewhere
		t.Errorf("%d instructions", told)
	}
	c, _, _, errno := Check(deep(5, op(api.OpClosure, 1), op(api.OpClosure, 0), op(api.OpCall, 2), jump(8)))
	if want := []int{0, 1, 2, 3, 4, 5, 3, 4, 2}; errno != api.OK || !slices.Equal(c.Depths[2], want) {
		t.Errorf("P1904: %v, %v; want %v", c, errno, want)
	}
}

// A closure takes what the function that it is of captures, be that one ahead of its own, its own, or behind.
func TestP1904Closures(t *testing.T) {
	for _, captures := range []int{0, 1, 2, 63, 64} {
		for depth := max(captures-2, 0); depth <= min(captures+2, 63); depth++ {
			body := times(depth, fix(), op(api.OpClosure, 1), jump(depth+1))
			first := all(fn(body...), api.Func{Captures: captures, Code: good().Code})
			own := all(good(), api.Func{Captures: captures, Code: body})
			last := all(good(), api.Func{Captures: captures, Code: good().Code}, fn(body...))
			for n, p := range []api.Program{first, own, last} {
				if depth < captures {
					refused(t, "P1904", p, n, depth, api.ErrUnder)
				} else {
					taken(t, "P1904", p)
				}
			}
		}
	}
}

// With 64 values on the stack there is room for those instructions that leave no more.
func TestP1904Over(t *testing.T) {
	for _, in := range instructions() {
		for _, depth := range []int{62, 63, 64} {
			at := in
			if jumps(in.Op) {
				at.A = depth + 1
			}
			p := deep(depth, at, jump(depth+1))
			if depth-plainTakes(p, in)+plainPuts(in.Op) > 64 {
				refused(t, "P1904", p, 2, depth, api.ErrOver)
			} else {
				taken(t, "P1904", p)
			}
		}
	}
	for _, in := range []api.Ins{op(api.OpDup), op(api.OpTable), op(api.OpClosure, 0), op(api.OpLocal), op(api.OpFlo, -1)} {
		refused(t, "P1904", deep(64, in, halt()), 2, 64, api.ErrOver)
		refused(t, "P1904", deep(64, in), 2, 64, api.ErrOver)
	}
	taken(t, "P1904", deep(64, op(api.OpSwap), halt()))
	refused(t, "P1904", deep(200, halt()), 2, 64, api.ErrOver)
}

// The last instruction has none behind it; that is told ahead of where it may go beside.
func TestP1904Runs(t *testing.T) {
	for _, in := range instructions() {
		p := deep(10, in)
		switch {
		case in.Op == api.OpJump: // back to where nothing lies
			refused(t, "P1904", p, 2, 10, api.ErrMeet)
		case len(plainNext(0, in)) == 0:
			taken(t, "P1904", p)
		default:
			refused(t, "P1904", p, 2, 10, api.ErrRuns)
		}
	}
	refused(t, "P1904", one(fix()), 0, 0, api.ErrRuns)
	refused(t, "P1904", one(fix(), branch(0)), 0, 1, api.ErrRuns)
	refused(t, "P1904", one(fix(), fix(), branch(0)), 0, 2, api.ErrRuns)
	refused(t, "P1904", one(jump(1), op(api.OpTable)), 0, 1, api.ErrRuns)
	refused(t, "P1904", one(pop()), 0, 0, api.ErrUnder)
	passes(t, "P1904", one(jump(0)), 0, 0)
	passes(t, "P1904", one(jump(1), jump(0), fix()), 0, 0, 0, -1)
}

// Two ways that meet with unlike depths: the later one is told, at the instruction from which it comes.
func TestP1904Meet(t *testing.T) {
	refused(t, "P1904", one(fix(), fix(), jump(1)), 0, 2, api.ErrMeet)
	refused(t, "P1904", one(fix(), fix(), pop(), pop(), jump(1)), 0, 4, api.ErrMeet)
	passes(t, "P1904", one(fix(), fix(), pop(), jump(1)), 2, 0, 1, 2, 1)
	refused(t, "P1904", one(fix(), branch(1), jump(0)), 0, 1, api.ErrMeet)
	passes(t, "P1904", one(fix(), branch(2), jump(0)), 1, 0, 1, 0)
	passes(t, "P1904", one(fix(), fix(), branch(1), halt()), 2, 0, 1, 2, 1)
	refused(t, "P1904", one(fix(), fix(), branch(2), halt()), 0, 2, api.ErrMeet)
	refused(t, "P1904", one(fix(), branch(4), fix(), fix(), fix(), halt()), 0, 3, api.ErrMeet)
	passes(t, "P1904", one(fix(), branch(4), fix(), jump(5), fix(), halt()), 1, 0, 1, 0, 1, 0, 1)
	refused(t, "P1904", one(fix(), branch(4), fix(), jump(6), fix(), fix(), halt()), 0, 5, api.ErrMeet)
	refused(t, "P1904", one(jump(3), pop(), jump(0), fix(), branch(1), fix(), jump(1)), 0, 1, api.ErrUnder)
}

// Where two things are wrong, the one that the least instruction comes to first is told.
func TestP1904LeastFirst(t *testing.T) {
	refused(t, "P1904", one(fix(), branch(5), jump(4), pop(), jump(3), op(api.OpAdd)), 0, 3, api.ErrUnder)
	refused(t, "P1904", one(fix(), branch(5), jump(4), jump(5), jump(3), op(api.OpAdd)), 0, 5, api.ErrUnder)
	refused(t, "P1904", one(fix(), branch(4), fix(), fix(), jump(5), pop(), halt()), 0, 3, api.ErrMeet)
	refused(t, "P1904", one(jump(4), pop(), halt(), pop(), fix(), branch(3), jump(1)), 0, 3, api.ErrUnder)
	// The branch makes the depth of 6 known, then that of 2: the way back is gone first.
	refused(t, "P1904", one(jump(4), jump(1), pop(), halt(), fix(), branch(2), op(api.OpCons), halt()), 0, 2, api.ErrUnder)
	refused(t, "P1904", one(jump(4), jump(1), jump(1), halt(), fix(), branch(2), op(api.OpCons), halt()), 0, 6, api.ErrUnder)
}

// A function whose ways are wrong is told ahead of one behind it.
func TestP1904FunctionsRising(t *testing.T) {
	under, runs := fn(pop(), halt()), fn(fix(), pop())
	refused(t, "P1904", all(under, runs), 0, 0, api.ErrUnder)
	refused(t, "P1904", all(runs, under), 0, 1, api.ErrRuns)
	refused(t, "P1904", all(good(), under, runs), 1, 0, api.ErrUnder)
	refused(t, "P1904", all(good(), good(), runs), 2, 1, api.ErrRuns)
	list := make([]api.Func, 64)
	for n := range list {
		list[n] = good()
	}
	list[63] = fn(fix(), jump(0))
	refused(t, "P1904", all(list...), 63, 1, api.ErrMeet)
}

// What no way comes to may take and put what it likes.
func TestP1905NoWay(t *testing.T) {
	passes(t, "P1905", one(jump(0), pop(), op(api.OpCons), jump(1), fix()), 0, 0, -1, -1, -1, -1)
	passes(t, "P1905", one(times(100, jump(0))...), 0, append([]int{0}, slices.Repeat([]int{-1}, 99)...)...)
	passes(t, "P1905", one(append([]api.Ins{fix(), halt()}, times(80, fix())...)...), 1, append([]int{0, 1}, slices.Repeat([]int{-1}, 80)...)...)
	for _, last := range []api.Ins{op(api.OpTail), op(api.OpReturn), halt(), op(api.OpError)} {
		passes(t, "P1905", one(fix(), last, pop()), 1, 0, 1, -1)
	}
}

func TestP1905Slots(t *testing.T) {
	for _, locals := range []int{0, 1, 2, 63, 64} {
		for _, depth := range []int{1, 2, 63, 64} {
			p := all(api.Func{Locals: locals, Code: times(depth, fix(), halt())})
			c, _, _, errno := Check(p)
			if errno != api.OK || len(c.Slots) != 1 || c.Slots[0] != locals+depth {
				t.Errorf("P1905: %d locals, %d values: %v, %v", locals, depth, c.Slots, errno)
			}
		}
		passes(t, "P1905", all(api.Func{Locals: locals, Code: []api.Ins{jump(0)}}), locals, 0)
	}
	passes(t, "P1905", one(fix(), fix(), fix(), pop(), pop(), halt()), 3, 0, 1, 2, 3, 2, 1)
	passes(t, "P1905", one(fix(), branch(4), jump(2), fix(), fix(), fix(), halt()), 2, 0, 1, 0, -1, 0, 1, 2)
}

// Each function has its own slots and depths.
func TestP1905Functions(t *testing.T) {
	p := all(good(), api.Func{Params: 2, Locals: 3, Captures: 4, Code: []api.Ins{op(api.OpTable), op(api.OpDup), op(api.OpEq), op(api.OpTail), fix()}}, fn(jump(0)))
	asked(t, "P1905", p, api.Checked{Slots: []int{1, 5, 0}, Depths: [][]int{{0, 1}, {0, 1, 2, 1, -1}, {0}}}, 0, 0, api.OK)
}

// The longest functions, and those in which as much as may be is still to be gone through.
func TestP1905Long(t *testing.T) {
	taken(t, "P1905", one(times(4095, jump(1), jump(0))...))
	var list []api.Ins
	for i := range 1024 {
		list = append(list, fix(), branch(4095-i))
	}
	taken(t, "P1905", one(append(list, times(2048, jump(0))...)...))
	for i := range 1024 {
		list[2*i+1] = branch(3072 + (i*389)%1024)
	}
	taken(t, "P1905", one(append(list, times(2048, jump(0))...)...))
	list = nil
	for range 2047 {
		list = append(list, fix(), pop())
	}
	taken(t, "P1905", one(append(list, fix(), halt())...))
	refused(t, "P1905", one(append(list, fix(), pop())...), 0, 4095, api.ErrRuns)
}

// ahead finds all instructions to which a way comes, and holds each way against the depths.
func ahead(t *testing.T, p api.Program, f api.Func, depths []int) {
	type at struct{ i, depth int }
	met := map[at]int{}
	list := []at{{0, 0}}
	reached := map[int]int{}
	for len(list) > 0 {
		x := list[len(list)-1]
		list = list[:len(list)-1]
		met[x]++
		reached[x.i]++
		if depths[x.i] != x.depth {
			t.Fatalf("P1906: %v: a way comes to %d with %d, not %d", f, x.i, x.depth, depths[x.i])
		}
		in := f.Code[x.i]
		d := x.depth - plainTakes(p, in)
		if d < 0 || d+plainPuts(in.Op) > 64 {
			t.Fatalf("P1906: %v: instruction %d with %d", f, x.i, x.depth)
		}
		for _, next := range plainNext(x.i, in) {
			if next >= len(f.Code) {
				t.Fatalf("P1906: %v: instruction %d runs out", f, x.i)
			}
			if y := (at{next, d + plainPuts(in.Op)}); met[y] == 0 {
				list = append(list, y)
			}
		}
	}
	for i, d := range depths {
		if (d >= 0) != (reached[i] > 0) || d < -1 {
			t.Fatalf("P1906: %v: depth %d at %d, which is met %d times", f, d, i, reached[i])
		}
	}
}

func TestP1906EachWay(t *testing.T) {
	source := rand.New(rand.NewSource(2))
	checked := 0
	for turn := range 20000 {
		p := someProgram(source)
		if turn%2 > 0 {
			mar(source, p)
		}
		c, _, _, errno := Check(p)
		if errno != api.OK {
			continue
		}
		checked++
		for n, f := range p.Funcs {
			if c.Slots[n] < 0 || c.Slots[n] > 128 || c.Slots[n] != f.Locals+max(0, slices.Max(c.Depths[n])) {
				t.Fatalf("P1906: %v: slots %v", p, c.Slots)
			}
			ahead(t, p, f, c.Depths[n])
		}
	}
	if checked < 5000 {
		t.Errorf("P1906: %d programs were taken alone", checked)
	}
}

func TestP1906Edges(t *testing.T) {
	passes(t, "P1906", one(jump(0)), 0, 0)
	p := all(api.Func{Locals: 64, Code: times(64, fix(), halt())})
	if c, _, _, errno := Check(p); errno != api.OK || c.Slots[0] != 128 || c.Depths[0][64] != 64 {
		t.Errorf("P1906: %v, %v", c, errno)
	}
}

func TestWorklist(t *testing.T) {
	source := rand.New(rand.NewSource(3))
	var w worklist[int]
	var there []int
	for range 5000 {
		if source.Intn(2) == 0 {
			x := source.Intn(1000)
			w.put(x)
			there = append(there, x)
			slices.Sort(there)
			continue
		}
		x, ok := w.take()
		if ok != (len(there) > 0) || ok && x != there[0] || !ok && x != 0 {
			t.Fatalf("%d, %v is taken of %v", x, ok, there)
		}
		if ok {
			there = there[1:]
		}
	}
}
