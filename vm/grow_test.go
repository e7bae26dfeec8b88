package vm

import (
	"math/rand"
	"slices"
	"testing"

	"hearth/api"
	"hearth/check"
)

// The sorts of values that programs are grown of: the kinds of objects, and these.
const (
	anyone  = 0
	aFix    = 20
	anImm   = 21
	aChar   = 22
	unknown = 30 // what is read out of objects: of whatever sort, for who asks for anyone
)

// rule is an instruction that is grown behind its operands.
type rule struct {
	op    int
	takes []int
	puts  int
}

// observing are the instructions to which a collection may be seen.
var observing = []int{api.OpWeakCar, api.OpEphKey, api.OpEphVal, api.OpTableGet, api.OpTableCount}

func rules() []rule {
	of := func(puts int, op int, takes ...int) rule { return rule{op, takes, puts} }
	return []rule{
		of(aFix, api.OpAdd, aFix, aFix), of(aFix, api.OpSub, aFix, aFix), of(aFix, api.OpMul, aFix, aFix),
		of(aFix, api.OpVectorLen, 3), of(aFix, api.OpTextLen, 4), of(aFix, api.OpKind, anyone), of(aFix, api.OpCharFix, aChar), of(aFix, api.OpTableCount, 10),
		of(aChar, api.OpFixChar, 40), of(anImm, api.OpEq, anyone, anyone), of(anImm, api.OpNot, anyone), of(anImm, api.OpLess, aFix, aFix),
		of(anImm, api.OpFloLess, 5, 5), of(anImm, api.OpTextEq, 4, 4), of(anImm, api.OpOut, anyone),
		of(anImm, api.OpSetCar, 1, anyone), of(anImm, api.OpSetCdr, 1, anyone), of(anImm, api.OpSetBox, 2, anyone), of(anImm, api.OpSetWeakCdr, 8, anyone),
		of(anImm, api.OpVectorSet, 3, 40, anyone),
		of(unknown, api.OpTablePut, 10, anyone, anyone), of(unknown, api.OpTablePut, 10, 2, anyone), of(unknown, api.OpTablePut, 10, aFix, anyone), of(unknown, api.OpTableDel, 10, anyone), of(unknown, api.OpTableDel, 10, 40),
		of(1, api.OpCons, anyone, anyone), of(2, api.OpBox, anyone), of(3, api.OpVector, 40, anyone), of(8, api.OpWeakCons, anyone, anyone), of(8, api.OpWeakCons, 2, anyone),
		of(9, api.OpEph, anyone, anyone), of(9, api.OpEph, 2, 1),
		of(5, api.OpFloAdd, 5, 5), of(5, api.OpFloSub, 5, 5), of(5, api.OpFloMul, 5, 5), of(5, api.OpFloDiv, 5, 5), of(5, api.OpToFlo, aFix), of(aFix, api.OpToFix, 41),
		of(unknown, api.OpCar, 1), of(unknown, api.OpCdr, 1), of(unknown, api.OpUnbox, 2), of(unknown, api.OpVectorRef, 3, 40), of(unknown, api.OpWeakCdr, 8),
		of(unknown, api.OpWeakCar, 8), of(unknown, api.OpEphKey, 9), of(unknown, api.OpEphVal, 9), of(unknown, api.OpTableGet, 10, anyone, anyone), of(unknown, api.OpTableGet, 10, 40, anyone),
		of(aFix, api.OpTextRef, 42, 40), of(aFix, api.OpQuot, aFix, 43), of(aFix, api.OpRem, aFix, 43),
		of(aFix, api.OpDup, 44), of(aFix, api.OpSwap, 44), of(unknown, api.OpCall, 45), of(unknown, api.OpCallCC, 46), of(unknown, api.OpCaptured, 47),
	}
}

// The functions of the programs: main; one without parameters; one with captures; one that is called with a continuation; one that calls itself; one that does so by tail calls.
const (
	mainFn = iota
	plainFn
	captureFn
	contFn
	deepFn
	loopFn
	functions
)

// Of each function the sorts of its locals; the first ones are its parameters.
var localSorts = [functions][]int{{aFix, anyone, 1, 10, 2}, {anyone, 2}, {anyone, 1}, {api.KindCont, aFix}, {aFix}, {aFix, anyone}}

var parameters = [functions]int{0, 0, 1, 1, 1, 1}

// The globals: a number, a table, a continuation (at first a closure that can be called like one), a list.
var globalSorts = []int{aFix, 10, api.KindCont, anyone}

// grower grows a function.
type grower struct {
	r        *rand.Rand
	f        int
	observes bool
	code     []api.Ins
	depth    int
}

func (g *grower) add(op int, a ...int) { g.code = append(g.code, api.Ins{Op: op, A: append(a, 0)[0]}) }

// chance is true once in n times.
func (g *grower) chance(n int) bool { return g.r.Intn(n) == 0 }

// exprs grows expressions one behind the other.
func (g *grower) exprs(room int, sorts ...int) {
	for _, s := range sorts {
		g.expr(s, room)
		g.depth++
	}
	g.depth -= len(sorts)
}

// expr grows an expression: code that puts one value of a sort.
func (g *grower) expr(sort, room int) {
	if g.chance(400) {
		sort = 1 + g.r.Intn(10) // a wrong one
	}
	if g.depth > 30 {
		room = 0
	}
	switch {
	case sort >= 40:
		g.constant(sort, room)
		return
	case sort == anyone && room > 0 && g.chance(3):
		sort = unknown
	case g.chance(3) && g.named(sort):
		return
	case sort == anyone:
		sort = []int{1, 1, 1, 2, 2, 3, 4, 5, 6, 8, 8, 9, 9, 10, aFix, anImm, aChar}[g.r.Intn(17)]
	}
	if g.chance(10) && room > 0 {
		g.choice(sort, room-1)
		return
	}
	fitting := slices.DeleteFunc(rules(), func(x rule) bool {
		return x.puts != sort || !g.observes && slices.Contains(observing, x.op)
	})
	if len(fitting) == 0 || room <= 0 || sort != unknown && g.chance(4) {
		g.leaf(sort)
		return
	}
	g.rule(fitting[g.r.Intn(len(fitting))], room)
}

// rule grows an instruction behind its operands.
func (g *grower) rule(x rule, room int) {
	g.exprs(room-1, x.takes...)
	switch x.op {
	case api.OpDup:
		g.add(api.OpDup)
		g.add(api.OpMul)
	case api.OpSwap:
		g.add(api.OpFix, 3)
		g.add(api.OpSwap)
		g.add(api.OpSub)
	case api.OpCall, api.OpCallCC, api.OpCaptured: // the operand has them
	default:
		g.add(x.op)
	}
}

// constant grows what only some instructions ask for.
func (g *grower) constant(sort, room int) {
	switch sort {
	case 40: // an index, mostly
		g.add(api.OpFix, g.r.Intn(3))
	case 41: // a float that is a number
		g.add(api.OpFlo, []int{0, 0x3FF8000000000000, 0x4010000000000000}[g.r.Intn(3)])
	case 42: // a text with bytes
		g.add(api.OpText, 1)
	case 43: // a divisor
		g.add(api.OpFix, 1+g.r.Intn(5))
	case 44:
		g.add(api.OpFix, g.r.Intn(9))
	case 45:
		g.call(room)
	case 46:
		g.add(api.OpClosure, contFn)
		if g.f >= contFn {
			g.add(api.OpPop)
			g.add(api.OpFix, 8)
			return
		}
		g.add(api.OpCallCC)
	case 47:
		if g.f == captureFn {
			g.add(api.OpCaptured, g.r.Intn(2))
			return
		}
		g.add(api.OpImm, 4)
	}
}

// call grows a call: functions call those above them, so that runs come back.
func (g *grower) call(room int) {
	f := []int{g.f + 1, captureFn, deepFn, loopFn}[g.r.Intn(4)]
	switch {
	case f <= g.f || f == contFn:
		g.add(api.OpFix, 6)
		return
	case f == captureFn:
		g.exprs(min(room-1, 1), anyone, anyone)
	case f >= functions:
		f = deepFn
	}
	g.add(api.OpClosure, f)
	for range parameters[f] {
		g.add(api.OpFix, g.r.Intn(7))
	}
	if g.chance(100) {
		g.add(api.OpPop)
		g.add(api.OpFix, 1)
	}
	g.add(api.OpCall, parameters[f])
}

// named grows a local or a global of a sort; false: there is none.
func (g *grower) named(sort int) bool {
	for i, s := range localSorts[g.f] {
		if s == sort && g.chance(2) {
			g.add(api.OpLocal, i)
			return true
		}
	}
	if i := slices.Index(globalSorts, sort); i >= 0 {
		g.add(api.OpGlobal, i)
		return true
	}
	return false
}

// choice grows an expression of two ways.
func (g *grower) choice(sort, room int) {
	g.expr(anImm, room)
	branch := len(g.code)
	g.add(api.OpBranch)
	g.expr(sort, room)
	jump := len(g.code)
	g.add(api.OpJump)
	g.code[branch].A = len(g.code)
	g.expr(sort, room)
	g.code[jump].A = len(g.code)
}

// leaf grows a value of a sort that asks for no others.
func (g *grower) leaf(sort int) {
	nils := func(n, op int) {
		for range n {
			g.add(api.OpImm)
		}
		g.add(op)
	}
	switch sort {
	case aFix:
		g.add(api.OpFix, []int{0, 1, -1, 7, 40, api.MostFix, api.LeastFix}[g.r.Intn(7)])
	case aChar:
		g.add(api.OpChar, g.r.Intn(0xD800))
	case 1:
		nils(2, api.OpCons)
	case 2:
		nils(1, api.OpBox)
	case 3:
		g.add(api.OpFix, []int{3, 3, 4, 5, 9, 30, 40, 70}[g.r.Intn(8)])
		nils(1, api.OpVector)
	case 4:
		g.add(api.OpText, g.r.Intn(2))
	case 5:
		g.add(api.OpFlo, []int{0, 0x3FF8000000000000, -1, g.r.Int()}[g.r.Intn(4)])
	case 6:
		g.add(api.OpClosure, []int{plainFn, contFn, deepFn, loopFn}[g.r.Intn(4)])
	case api.KindCont:
		g.add(api.OpGlobal, 2)
	case 8:
		nils(2, api.OpWeakCons)
	case 9:
		nils(2, api.OpEph)
	case 10:
		g.add(api.OpTable)
	default:
		g.add(api.OpImm, g.r.Intn(5))
	}
}

// statement grows code that leaves the stack as it is.
func (g *grower) statement() {
	locals := localSorts[g.f]
	switch g.r.Intn(9) {
	case 0, 1, 2:
		if i := g.r.Intn(len(locals)); locals[i] != api.KindCont {
			g.expr(locals[i], 3)
			g.add(api.OpSetLocal, i)
		}
	case 3:
		i := g.r.Intn(2)
		g.expr(globalSorts[i], 3)
		g.add(api.OpSetGlobal, i)
	case 4:
		g.expr(anyone, 3)
		g.add(api.OpGlobal, 3)
		g.add(api.OpCons)
		g.add(api.OpSetGlobal, 3)
	case 5:
		if g.chance(3) {
			g.add(api.OpImm)
			g.add(api.OpSetGlobal, 3)
		}
	case 6:
		if g.f == mainFn && g.chance(2) {
			g.add(api.OpGlobal, 2)
			g.expr(aFix, 1)
			g.add(api.OpCall, 1)
			g.add(api.OpPop)
		}
	default:
		g.expr(unknown, 4)
		g.add(api.OpPop)
	}
}

// grown is a function of a program.
func grown(r *rand.Rand, f int, observes bool) api.Func {
	g := &grower{r: r, f: f, observes: observes}
	if f == mainFn {
		for i, sort := range []int{aFix, 10, 6, anImm} {
			if sort == 6 {
				g.add(api.OpClosure, loopFn)
			} else {
				g.leaf(sort)
			}
			g.add(api.OpSetGlobal, i)
		}
	}
	for i := parameters[f]; i < len(localSorts[f]); i++ {
		g.leaf(localSorts[f][i])
		g.add(api.OpSetLocal, i)
	}
	loop := len(g.code)
	for range []int{12, 3, 3, 1, 0, 0}[f] {
		g.statement()
	}
	g.end(loop)
	return api.Func{Params: parameters[f], Locals: len(localSorts[f]), Captures: []int{0, 0, 2, 0, 0, 0}[f], Code: g.code}
}

// end grows how a function ends.
func (g *grower) end(loop int) {
	switch g.f {
	case mainFn:
		if !g.chance(6) {
			g.add(api.OpJump, loop)
			return
		}
		g.expr(anyone, 2)
		g.add([]int{api.OpHalt, api.OpReturn, api.OpError}[g.r.Intn(3)])
		return
	case contFn:
		if g.chance(2) {
			g.add(api.OpLocal)
			g.add(api.OpSetGlobal, 2)
		}
		g.add(api.OpLocal)
		switch g.r.Intn(4) {
		case 0:
			g.expr(anyone, 1)
			g.add(api.OpTail, 1)
			return
		case 1:
			g.expr(anyone, 1)
			g.add(api.OpCall, 1)
		case 2:
			g.add(api.OpCallCC)
		}
	case captureFn:
		g.add(api.OpCaptured, g.r.Intn(2))
	case deepFn, loopFn:
		g.countdown(loop)
		return
	default:
		g.expr(anyone, 2)
	}
	g.add(api.OpReturn)
}

// countdown grows a function that calls itself, until its number is 0.
func (g *grower) countdown(from int) {
	g.add(api.OpLocal)
	g.add(api.OpFix, 1)
	g.add(api.OpLess)
	g.add(api.OpBranch, from+6)
	g.add(api.OpImm)
	g.add(api.OpReturn)
	if g.f == deepFn {
		g.add(api.OpLocal)
	}
	g.add(api.OpClosure, g.f)
	g.add(api.OpLocal)
	g.add(api.OpFix, 1)
	g.add(api.OpSub)
	if g.f == loopFn {
		g.add(api.OpTail, 1)
		return
	}
	g.add(api.OpCall, 1)
	g.add(api.OpCons)
	g.add(api.OpReturn)
}

// grownProgram grows a program; one seed has one.
func grownProgram(t testing.TB, seed int, observes bool) api.Program {
	t.Helper()
	r := rand.New(rand.NewSource(int64(seed)))
	for {
		p := program()
		p.Globals = len(globalSorts)
		for f := range functions {
			p.Funcs = append(p.Funcs, grown(r, f, observes))
		}
		_, f, i, errno := check.Check(p)
		if errno == api.OK {
			return p
		}
		if errno != api.ErrOver {
			t.Fatalf("the test grows no program: %v at %d, %d: %v", errno, f, i, p.Funcs[f].Code)
		}
	}
}
