package model

import (
	"math/rand"
	"slices"
	"testing"

	"hearth/api"
	"hearth/check"
)

// Programs are grown of pieces of code, each of which leaves the stack as it is. Main's locals have one sort each: a number, anything, a pair, a table, a weak pair, an ephemeron, a vector of three, a box.
const (
	aNumber = iota
	anything
	aPair
	aTable
	aWeak
	anEph
	aVector
	aBox
	locals
)

// The globals: a list, and who is called with one argument: a function at first, a continuation later.
const (
	theList = iota
	theCont
	globals
)

// The functions beside main: one that answers its argument; one that calls itself, as often as its argument says; one that does so by tail calls; one that keeps the continuation that it is called with, and calls it; one that has that one called from its own frame; one that answers what it has captured.
const (
	sameFn = iota + 1
	deepFn
	loopFn
	keepFn
	innerFn
	heldFn
)

// observing are the instructions to which a collection may be seen.
var observing = []int{api.OpWeakCar, api.OpEphKey, api.OpEphVal, api.OpTableGet, api.OpTableCount}

// grower grows main.
type grower struct {
	r    *rand.Rand
	code []api.Ins
}

func (g *grower) add(ins ...api.Ins) { g.code = append(g.code, ins...) }

// ops adds instructions without operands.
func (g *grower) ops(ops ...int) {
	for _, n := range ops {
		g.add(op(n))
	}
}

func (g *grower) local(i int)     { g.add(op(api.OpLocal, i)) }
func (g *grower) setLocal(i int)  { g.add(op(api.OpSetLocal, i)) }
func (g *grower) number(n int)    { g.add(op(api.OpFix, n)) }
func (g *grower) global(i int)    { g.add(op(api.OpGlobal, i)) }
func (g *grower) setGlobal(i int) { g.add(op(api.OpSetGlobal, i)) }

// any puts some value.
func (g *grower) any() {
	switch g.r.Intn(16) {
	case 0:
		g.number(g.r.Intn(7) - 3)
	case 1:
		g.add(op(api.OpImm, g.r.Intn(5)))
	case 2:
		g.add(op(api.OpChar, 0x3B1+g.r.Intn(9)))
	case 3:
		g.add(op(api.OpText, g.r.Intn(2)))
	case 4:
		g.add(op(api.OpFlo, []int{0, 0x3FF8000000000000, -1}[g.r.Intn(3)]))
	case 5:
		g.global(theList)
	case 6:
		g.any()
		g.any()
		g.add(op(api.OpClosure, heldFn))
	default:
		g.local(g.r.Intn(locals))
	}
}

// key puts what is likely to be gone soon: a new box; now and then something else.
func (g *grower) key() {
	switch g.r.Intn(6) {
	case 0:
		g.number(g.r.Intn(4))
	case 1:
		g.any()
	case 2:
		g.local(aBox)
	default:
		g.any()
		g.ops(api.OpBox)
	}
}

// pieces are the pieces of code, each a way to go on.
func (g *grower) pieces() []func() {
	return []func(){
		func() { g.any(); g.setLocal(anything) },
		func() { g.any(); g.any(); g.ops(api.OpCons); g.setLocal(aPair) },
		func() { g.any(); g.ops(api.OpBox); g.setLocal(aBox) },
		func() { g.number(3); g.any(); g.ops(api.OpVector); g.setLocal(aVector) },
		func() { g.ops(api.OpTable); g.setLocal(aTable) },
		func() { g.key(); g.any(); g.ops(api.OpWeakCons); g.setLocal(aWeak) },
		func() { g.key(); g.any(); g.ops(api.OpEph); g.setLocal(anEph) },
		func() { g.key(); g.ops(api.OpDup, api.OpEph); g.setLocal(anEph) },
		func() { g.local(aTable); g.key(); g.any(); g.ops(api.OpTablePut, api.OpPop) },
		func() { g.local(aTable); g.key(); g.ops(api.OpDup, api.OpTablePut, api.OpPop) },
		func() { g.local(aTable); g.key(); g.ops(api.OpTableDel, api.OpPop) },
		func() { g.local(aTable); g.key(); g.any(); g.observe(api.OpTableGet); g.setLocal(anything) },
		func() { g.local(aTable); g.observe(api.OpTableCount); g.setLocal(aNumber) },
		func() { g.local(aWeak); g.observe(api.OpWeakCar); g.setLocal(anything) },
		func() { g.local(aWeak); g.ops(api.OpWeakCdr); g.setLocal(anything) },
		func() { g.local(aWeak); g.any(); g.ops(api.OpSetWeakCdr, api.OpPop) },
		func() { g.local(anEph); g.observe(api.OpEphKey); g.setLocal(anything) },
		func() { g.local(anEph); g.observe(api.OpEphVal); g.setLocal(anything) },
		func() { g.local(aPair); g.ops(api.OpCar + g.r.Intn(2)); g.setLocal(anything) },
		func() { g.local(aPair); g.any(); g.ops(api.OpSetCar+g.r.Intn(2), api.OpPop) },
		func() { g.local(aBox); g.ops(api.OpUnbox); g.setLocal(anything) },
		func() { g.local(aBox); g.any(); g.ops(api.OpSetBox, api.OpPop) },
		func() { g.local(aVector); g.number(g.r.Intn(3)); g.any(); g.ops(api.OpVectorSet, api.OpPop) },
		func() { g.local(aVector); g.number(g.r.Intn(3)); g.ops(api.OpVectorRef); g.setLocal(anything) },
		func() { g.local(aVector); g.ops(api.OpVectorLen); g.setLocal(aNumber) },
		func() { g.any(); g.global(theList); g.ops(api.OpCons); g.setGlobal(theList) },
		func() { g.add(op(api.OpImm)); g.setGlobal(theList) },
		func() { g.any(); g.ops(api.OpOut, api.OpPop) },
		func() { g.any(); g.any(); g.ops(api.OpEq); g.setLocal(anything) },
		func() { g.any(); g.ops(api.OpKind); g.setLocal(aNumber) },
		g.arithmetic, g.floats, g.texts, g.chars, g.choice, g.call, g.captured, g.capture, g.back,
	}
}

// observe adds an instruction that observes, and tells what it has seen.
func (g *grower) observe(n int) { g.ops(n, api.OpDup, api.OpOut, api.OpPop) }

func (g *grower) arithmetic() {
	g.local(aNumber)
	g.number(1 + g.r.Intn(5))
	g.ops([]int{api.OpAdd, api.OpSub, api.OpMul, api.OpQuot, api.OpRem}[g.r.Intn(5)])
	g.setLocal(aNumber)
}

func (g *grower) floats() {
	g.local(aNumber)
	g.ops(api.OpToFlo)
	g.add(op(api.OpFlo, 0x3FF8000000000000))
	g.ops([]int{api.OpFloAdd, api.OpFloSub, api.OpFloMul, api.OpFloDiv, api.OpFloLess}[g.r.Intn(5)])
	g.setLocal(anything)
	g.add(op(api.OpFlo, 0x4010000000000000))
	g.ops(api.OpToFix)
	g.setLocal(aNumber)
}

func (g *grower) texts() {
	g.add(op(api.OpText, 1), op(api.OpText, g.r.Intn(2)))
	g.ops(api.OpTextEq)
	g.setLocal(anything)
	g.add(op(api.OpText, 1), op(api.OpText, 1))
	g.ops(api.OpTextLen)
	g.number(1 + g.r.Intn(12))
	g.ops(api.OpSub, api.OpTextRef)
	g.setLocal(aNumber)
}

// chars makes a char of another one, and a number of that.
func (g *grower) chars() {
	g.add(op(api.OpChar, 0x3B1))
	g.number(g.r.Intn(20))
	g.ops(api.OpSwap, api.OpCharFix, api.OpAdd, api.OpFixChar, api.OpDup)
	g.setLocal(anything)
	g.ops(api.OpCharFix)
	g.setLocal(aNumber)
}

// choice grows a piece that is made only if something is true.
func (g *grower) choice() {
	if g.r.Intn(2) == 0 {
		g.any()
		g.ops(api.OpNot)
	} else {
		g.local(aNumber)
		g.number(2)
		g.ops(api.OpLess)
	}
	branch := len(g.code)
	g.add(op(api.OpBranch))
	g.piece(true)
	g.code[branch].A = len(g.code)
}

// captured calls a closure with what it has captured.
func (g *grower) captured() {
	g.any()
	g.any()
	g.add(op(api.OpClosure, heldFn))
	g.add(op(api.OpCall))
	g.setLocal(anything)
}

func (g *grower) call() {
	f := []int{sameFn, deepFn, loopFn, innerFn}[g.r.Intn(4)]
	g.add(op(api.OpClosure, f))
	g.number(g.r.Intn(5))
	g.add(op(api.OpCall, 1))
	g.setLocal(anything)
}

// capture keeps a continuation that comes back here; or calls with one what was kept last.
func (g *grower) capture() {
	if g.r.Intn(3) == 0 {
		g.global(theCont)
	} else {
		g.add(op(api.OpClosure, keepFn))
	}
	g.ops(api.OpCallCC)
	g.setLocal(anything)
}

// back calls the continuation that was kept last; a function, as long as there is none.
func (g *grower) back() {
	g.global(theCont)
	g.any()
	g.add(op(api.OpCall, 1))
	g.setLocal(anything)
}

// piece grows a piece of code; of one that does not observe, if it may not.
func (g *grower) piece(observes bool) {
	for {
		from := len(g.code)
		all := g.pieces()
		all[g.r.Intn(len(all))]()
		if observes || !slices.ContainsFunc(g.code[from:], observer) {
			return
		}
		g.code = g.code[:from]
	}
}

func observer(in api.Ins) bool { return slices.Contains(observing, in.Op) }

// begin gives the globals and main's locals their sorts.
func (g *grower) begin() {
	g.add(op(api.OpImm))
	g.setGlobal(theList)
	g.add(op(api.OpClosure, sameFn))
	g.setGlobal(theCont)
	g.number(2)
	g.setLocal(aNumber)
	for _, piece := range g.pieces()[1:7] {
		piece()
	}
}

// end grows how main ends, mostly not at all.
func (g *grower) end(from int) {
	g.any()
	switch g.r.Intn(8) {
	case 0:
		g.ops(api.OpHalt)
	case 1:
		g.ops(api.OpReturn)
	case 2:
		g.ops(api.OpError)
	case 3:
		g.ops(api.OpUnbox, api.OpHalt)
	default:
		g.ops(api.OpPop)
		g.add(op(api.OpJump, from))
	}
}

// others are the functions beside main.
func others() []api.Func {
	countdown := func(call ...api.Ins) api.Func {
		code := []api.Ins{op(api.OpLocal), op(api.OpFix, 1), op(api.OpLess), op(api.OpBranch, 6), op(api.OpLocal), op(api.OpReturn)}
		return fn(1, 1, 0, append(code, call...)...)
	}
	less := []api.Ins{op(api.OpLocal), op(api.OpFix, 1), op(api.OpSub)}
	deep := append([]api.Ins{op(api.OpLocal), op(api.OpClosure, deepFn)}, less...)
	loop := append([]api.Ins{op(api.OpClosure, loopFn)}, less...)
	return []api.Func{
		fn(1, 1, 0, op(api.OpLocal), op(api.OpReturn)),
		countdown(append(deep, op(api.OpCall, 1), op(api.OpCons), op(api.OpReturn))...),
		countdown(append(loop, op(api.OpTail, 1))...),
		fn(1, 1, 0, op(api.OpLocal), op(api.OpSetGlobal, theCont), op(api.OpLocal), op(api.OpLocal), op(api.OpTail, 1)),
		fn(1, 1, 0, op(api.OpLocal), op(api.OpClosure, keepFn), op(api.OpCallCC), op(api.OpCons), op(api.OpReturn)),
		fn(0, 0, 2, op(api.OpCaptured, 1), op(api.OpReturn)),
	}
}

// grown grows a program; one seed has one.
func grown(t testing.TB, seed int, observes bool) api.Program {
	t.Helper()
	g := &grower{r: rand.New(rand.NewSource(int64(seed)))}
	g.begin()
	from := len(g.code)
	for range 8 + g.r.Intn(20) {
		g.piece(observes)
	}
	g.end(from)
	p := program(append([]api.Func{fn(0, locals, 0, g.code...)}, others()...)...)
	p.Globals, p.Texts = globals, [][]byte{{}, []byte("seven\x00bytes\xff")}
	if _, f, i, errno := check.Check(p); errno != api.OK {
		t.Fatalf("the test grows no program: %v at %d, %d: %v", errno, f, i, p.Funcs[f].Code)
	}
	return p
}

// someNumbers are up to n boundaries below end, in no order, some of them twice.
func someNumbers(r *rand.Rand, n, end int) []int {
	var out []int
	for range r.Intn(n + 1) {
		out = append(out, r.Intn(end+6)-3)
		if r.Intn(4) == 0 {
			out = append(out, out[r.Intn(len(out))])
		}
	}
	return out
}
