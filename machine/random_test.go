package machine

import (
	"math/rand"
	"slices"
	"testing"

	"hearth/api"
	"hearth/audit"
	"hearth/check"
	"hearth/graph"
	"hearth/prim"
	"hearth/table"
)

// The sorts of values that programs are grown of: the kinds of objects, and these.
const (
	aFix  = 20
	anImm = 21
	aChar = 22
	any1  = 0 // of any sort
)

// grower grows a program's function.
type grower struct {
	r        *rand.Rand
	f        int  // its number: it calls those above it, so that runs end
	observes bool // instructions may observe
	code     []api.Ins
	locals   []int // the sorts of the locals
	captures int
	depth    int
}

// The functions of all programs that are grown: main, one without parameters, one of a fixnum, one that is called with a continuation, one with captures.
const (
	mainFn = iota
	plainFn
	countFn
	contFn
	captureFn
	functions
)

var parameters = [functions][]int{nil, nil, {aFix}, {api.KindCont}, {any1}}

const captures = 2

// The sorts of the globals. The third one is a continuation, once there was one; it begins as a closure that can be called like one.
var globalSorts = []int{aFix, api.KindTable, api.KindCont, any1}

func (g *grower) add(op int, a ...int) { g.code = append(g.code, api.Ins{Op: op, A: append(a, 0)[0]}) }

// chance is true once in n times.
func (g *grower) chance(n int) bool { return g.r.Intn(n) == 0 }

// exprs grows one expression for each of these sorts, one behind the other.
func (g *grower) exprs(room int, sorts ...int) {
	for _, s := range sorts {
		g.expr(s, room)
		g.depth++
	}
	g.depth -= len(sorts)
}

// then grows an instruction behind its operands.
func (g *grower) then(room, op int, sorts ...int) {
	g.exprs(room-1, sorts...)
	g.add(op)
}

// expr grows an expression: code that puts one value of a sort.
func (g *grower) expr(sort, room int) {
	if g.chance(200) {
		sort = g.r.Intn(11) // a wrong one
	}
	if g.depth > 40 {
		room = 0
	}
	if sort == any1 {
		sort = []int{aFix, aFix, anImm, aChar, 1, 1, 1, 2, 3, 4, 5, 6, 8, 9, 10}[g.r.Intn(15)]
		if g.chance(3) && room > 0 {
			g.reads(room)
			return
		}
	}
	if g.chance(3) && g.known(sort) {
		return
	}
	if g.chance(8) && room > 0 {
		g.choice(sort, room-1)
		return
	}
	g.made(sort, room)
}

// known grows a local or a global of a sort; false: there is none.
func (g *grower) known(sort int) bool {
	for i, s := range g.locals {
		if s == sort && g.chance(2) {
			g.add(api.OpLocal, i)
			return true
		}
	}
	if i := slices.Index(globalSorts, sort); i >= 0 {
		g.add(api.OpGlobal, i)
		return true
	}
	return false
}

// choice grows an expression of two ways.
func (g *grower) choice(sort, room int) {
	g.truth(room)
	branch := len(g.code)
	g.add(api.OpBranch)
	g.expr(sort, room)
	jump := len(g.code)
	g.add(api.OpJump)
	g.code[branch].A = len(g.code)
	g.expr(sort, room)
	g.code[jump].A = len(g.code)
}

// truth grows an expression that is false now and then.
func (g *grower) truth(room int) {
	switch g.r.Intn(6) {
	case 0:
		g.then(room, api.OpLess, aFix, aFix)
	case 1:
		g.then(room, api.OpEq, any1, any1)
	case 2:
		g.then(room, api.OpNot, any1)
	case 3:
		g.then(room, api.OpFloLess, 5, 5)
	case 4:
		g.then(room, api.OpTextEq, 4, 4)
	default:
		g.add(api.OpImm, 1+g.r.Intn(2))
	}
}

// reads grows an expression whose sort nobody knows.
func (g *grower) reads(room int) {
	ways := []func(){
		func() { g.then(room, api.OpCar, 1) }, func() { g.then(room, api.OpCdr, 1) }, func() { g.then(room, api.OpUnbox, 2) },
		func() { g.exprs(room-1, 3); g.add(api.OpFix, g.r.Intn(4)); g.add(api.OpVectorRef) },
		func() { g.then(room, api.OpWeakCdr, 8) }, func() { g.then(room, api.OpOut, any1) },
		func() { g.then(room, api.OpSetCar, 1, any1) }, func() { g.then(room, api.OpSetCdr, 1, any1) }, func() { g.then(room, api.OpSetBox, 2, any1) },
		func() { g.exprs(room-1, 3); g.add(api.OpFix, g.r.Intn(4)); g.exprs(0, any1); g.add(api.OpVectorSet) },
		func() { g.then(room, api.OpSetWeakCdr, 8, any1) },
		func() { g.then(room, api.OpTablePut, 10, any1, any1) }, func() { g.then(room, api.OpTablePut, 10, aFix, any1) }, func() { g.then(room, api.OpTableDel, 10, any1) },
		func() { g.captured() }, func() { g.captured() }, func() { g.call(room) },
	}
	if g.observes {
		ways = append(ways,
			func() { g.then(room, api.OpWeakCar, 8) }, func() { g.then(room, api.OpEphKey, 9) }, func() { g.then(room, api.OpEphVal, 9) },
			func() { g.then(room, api.OpTableGet, 10, any1, any1) }, func() { g.then(room, api.OpTableGet, 10, aFix, any1) })
	}
	ways[g.r.Intn(len(ways))]()
}

// captured grows a captured value, where there are such.
func (g *grower) captured() {
	if g.captures > 0 {
		g.add(api.OpCaptured, g.r.Intn(g.captures))
		return
	}
	g.add(api.OpImm, 4)
}

// made grows an expression that makes a value of a sort.
func (g *grower) made(sort, room int) {
	switch sort {
	case aFix:
		g.number(room)
	case anImm:
		g.add(api.OpImm, g.r.Intn(5))
	case aChar:
		if room > 0 && g.chance(3) {
			g.then(room, api.OpFixChar, aFix)
			return
		}
		g.add(api.OpChar, g.r.Intn(0xD800))
	case api.KindPair, api.KindWeak, api.KindEph:
		if room <= 0 {
			g.add(api.OpImm)
			g.add(api.OpDup)
		} else {
			g.exprs(room-1, any1, any1)
		}
		g.add(map[int]int{1: api.OpCons, 8: api.OpWeakCons, 9: api.OpEph}[sort])
	case api.KindBox:
		g.then(min(room, 1), api.OpBox, aFix)
	case api.KindVector:
		g.add(api.OpFix, []int{0, 1, 3, 4, 5, 40}[g.r.Intn(6)])
		g.exprs(min(room-1, 1), anImm)
		g.add(api.OpVector)
	case api.KindText:
		g.add(api.OpText, g.r.Intn(3))
	case api.KindFlo:
		g.float(room)
	case api.KindClosure:
		g.closure(room, 1+g.r.Intn(functions-1))
	case api.KindCont:
		g.add(api.OpGlobal, 2)
	case api.KindTable:
		g.add(api.OpTable)
	default:
		g.add(api.OpImm, 3)
	}
}

func (g *grower) number(room int) {
	if room <= 0 {
		g.add(api.OpFix, g.r.Intn(10)-2)
		return
	}
	ways := []func(){
		func() { g.add(api.OpFix, []int{api.MostFix, api.LeastFix, -1, 65, g.r.Int() >> 3}[g.r.Intn(5)]) },
		func() { g.then(room, api.OpAdd, aFix, aFix) }, func() { g.then(room, api.OpSub, aFix, aFix) }, func() { g.then(room, api.OpMul, aFix, aFix) },
		func() { g.exprs(room-1, aFix); g.add(api.OpFix, 1+g.r.Intn(5)); g.add(api.OpQuot) },
		func() { g.exprs(room-1, aFix); g.add(api.OpFix, g.r.Intn(30)); g.add(api.OpRem) },
		func() { g.then(room, api.OpVectorLen, 3) }, func() { g.then(room, api.OpTextLen, 4) }, func() { g.then(room, api.OpKind, any1) },
		func() { g.then(room, api.OpToFix, 5) }, func() { g.then(room, api.OpCharFix, aChar) },
		func() { g.add(api.OpText, 1); g.add(api.OpFix, g.r.Intn(6)); g.add(api.OpTextRef) },
		func() { g.add(api.OpFix, 4); g.add(api.OpFix, 9); g.add(api.OpSwap); g.add(api.OpSub) },
		func() { g.exprs(room-1, aFix); g.add(api.OpDup); g.add(api.OpMul) },
		func() { g.call(room) }, func() { g.call(room) }, func() { g.call(room) },
	}
	if g.observes {
		ways = append(ways, func() { g.then(room, api.OpTableCount, 10) })
	}
	ways[g.r.Intn(len(ways))]()
}

// call grows a call of a function with a greater number; now and then one that can't be made.
func (g *grower) call(room int) {
	f := g.f + 1
	if f >= functions {
		g.add(api.OpFix, 6)
		return
	}
	f += g.r.Intn(functions - f)
	if g.chance(15) {
		if g.chance(2) {
			g.add(api.OpClosure, countFn)
		} else {
			g.expr(any1, 0)
		}
		g.add(api.OpCall)
		return
	}
	g.closure(room, f)
	if f == contFn {
		g.add(api.OpCallCC)
		return
	}
	g.depth++
	g.exprs(0, parameters[f]...)
	g.depth--
	g.add(api.OpCall, len(parameters[f]))
}

func (g *grower) float(room int) {
	if room <= 0 || g.chance(3) {
		g.add(api.OpFlo, []int{0, 0x3FF8000000000000, -1, 0x4010000000000000, g.r.Int()}[g.r.Intn(5)])
		return
	}
	if g.chance(3) {
		g.then(room, api.OpToFlo, aFix)
		return
	}
	g.then(room, api.OpFloAdd+g.r.Intn(4), 5, 5)
}

func (g *grower) closure(room, f int) {
	if f == captureFn {
		for range captures {
			g.exprs(min(room-1, 1), any1)
			g.depth++
		}
		g.depth -= captures
	}
	g.add(api.OpClosure, f)
}

// statement grows code that leaves the stack as it is.
func (g *grower) statement() {
	switch g.r.Intn(7) {
	case 0, 1:
		i := g.r.Intn(len(g.locals))
		g.expr(g.locals[i], 3)
		g.add(api.OpSetLocal, i)
	case 2:
		i := []int{0, 1, 3}[g.r.Intn(3)]
		g.expr(globalSorts[i], 3)
		g.add(api.OpSetGlobal, i)
	case 3:
		g.then(3, api.OpOut, any1)
		g.add(api.OpPop)
	case 4:
		if g.f == mainFn && g.chance(3) {
			g.add(api.OpGlobal, 2)
			g.expr(aFix, 1)
			g.add(api.OpCall, 1)
			g.add(api.OpPop)
		}
	default:
		g.expr(any1, 3)
		g.add(api.OpPop)
	}
}

// begin sets the locals and globals, so that they are what they are said to be.
func (g *grower) begin() {
	if g.f == mainFn {
		for i, sort := range []int{aFix, api.KindTable, api.KindClosure, anImm} {
			if sort == api.KindClosure {
				g.add(api.OpClosure, countFn)
			} else {
				g.made(sort, 0)
			}
			g.add(api.OpSetGlobal, i)
		}
	}
	for i := len(parameters[g.f]); i < len(g.locals); i++ {
		g.made(g.locals[i], 0)
		g.add(api.OpSetLocal, i)
	}
	switch g.f {
	case contFn:
		g.add(api.OpLocal)
		g.add(api.OpSetGlobal, 2)
	case captureFn:
		g.add(api.OpCaptured, 1)
		g.add(api.OpSetLocal, 2)
	}
}

// turns grows a loop back to an instruction, by a count in a local of its own.
func (g *grower) turns(loop, most int) {
	count := len(g.locals)
	g.locals = append(g.locals, -1)
	again := len(g.code)
	g.add(api.OpLocal, count)
	g.add(api.OpKind)
	g.add(api.OpFix, aFix)
	g.add(api.OpEq)
	branch := len(g.code)
	g.add(api.OpBranch)
	g.add(api.OpLocal, count)
	g.add(api.OpFix, 1)
	g.add(api.OpAdd)
	g.add(api.OpDup)
	g.add(api.OpSetLocal, count)
	g.add(api.OpFix, most)
	g.add(api.OpLess)
	g.add(api.OpNot)
	g.add(api.OpBranch, loop)
	jump := len(g.code)
	g.add(api.OpJump)
	g.code[branch].A = len(g.code) // the local is void at first
	g.add(api.OpFix)
	g.add(api.OpSetLocal, count)
	g.add(api.OpJump, again)
	g.code[jump].A = len(g.code)
}

// grown is a function of a program.
func grown(r *rand.Rand, f int, observes bool) api.Func {
	g := &grower{r: r, f: f, observes: observes, locals: append(slices.Clone(parameters[f]), aFix, any1, api.KindPair)}
	if f == captureFn {
		g.captures = captures
	}
	g.begin()
	loop := len(g.code)
	for range 1 + r.Intn(4) {
		g.statement()
	}
	if f == mainFn {
		for range 4 {
			g.statement()
		}
		g.turns(loop, 6)
	}
	g.expr(aFix, 2)
	g.end()
	return api.Func{Params: len(parameters[f]), Locals: len(g.locals), Captures: g.captures, Code: g.code}
}

// end grows how a function ends; its answer, a fixnum, is on the stack.
func (g *grower) end() {
	switch {
	case g.f == contFn && g.chance(2): // it calls its continuation
		g.add(api.OpLocal)
		g.add(api.OpSwap)
		g.add([]int{api.OpCall, api.OpTail}[g.r.Intn(2)], 1)
	case g.f == contFn && g.chance(3):
		g.add(api.OpPop)
		g.add(api.OpLocal)
		g.add(api.OpCallCC)
	case g.f < countFn && g.chance(3):
		g.add(api.OpClosure, countFn)
		g.add(api.OpSwap)
		g.add(api.OpTail, 1)
	case g.f == mainFn && g.chance(2):
		g.add(api.OpHalt)
	case g.chance(12):
		g.add(api.OpError)
	}
	if last := g.code[len(g.code)-1].Op; last != api.OpTail && last != api.OpHalt && last != api.OpError {
		g.add(api.OpReturn)
	}
}

// grow grows a program.
func grow(t testing.TB, r *rand.Rand, observes bool) api.Program {
	for {
		p := program()
		for f := range functions {
			p.Funcs = append(p.Funcs, grown(r, f, observes))
		}
		if _, _, _, errno := check.Check(p); errno == api.OK {
			return p
		} else if errno != api.ErrOver && errno != api.ErrForm {
			t.Fatalf("the test grows no program: %v", errno)
		}
	}
}

// both is a run over an arena and over a graph.
type both struct {
	arena *Machine[*table.Heap]
	graph *Machine[*graph.Heap]
}

func bothOf(t testing.TB, p api.Program) both {
	return both{started(t, arena(t, 2000), p, 0), started(t, graph.New(), p, 0)}
}

// alike tells a fault, if the heaps are not one.
func (x both) alike(t testing.TB) api.Graph {
	t.Helper()
	a, fault1 := x.arena.heap.Graph(x.arena.Roots())
	b, fault2 := x.graph.heap.Graph(x.graph.Roots())
	if fault1 != fine || fault2 != fine || !graph.Equal(a, b) {
		t.Fatalf("P2209: the graphs are not one: %v, %v", fault1, fault2)
	}
	if found := audit.Check(x.arena.heap.Dump()); len(found) > 0 {
		t.Fatalf("P2209: the arena is wrong: %v", found)
	}
	return b
}

// step makes a step of both, and holds them against the plain run.
func (x both) step(t testing.TB, s *simple, met map[int]int) {
	t.Helper()
	serial := func(v val) val { // a value of the graph, in the arena
		if v.Kind != api.ValRef {
			return v
		}
		at, _ := x.arena.heap.Find(v.N)
		return ref(at)
	}
	put := func(t, k val) []int {
		sizes, _ := x.arena.heap.PutNeeds(serial(t), serial(k))
		return sizes
	}
	wantA, wantB := s.needs(put), s.needs(func(t, k val) []int { return nil })
	needed1, fault1 := x.arena.Needs()
	needed2, fault2 := x.graph.Needs()
	if fault1 != fine || fault2 != fine || !slices.Equal(needed1, wantA) || !slices.Equal(needed2, wantB) {
		t.Fatalf("P2203: step %d: needs %v, %v; %v, %v; want %v, %v", s.out.Steps, needed1, fault1, needed2, fault2, wantA, wantB)
	}
	op := s.step()
	if s.out.End == api.Failed {
		met[-int(s.out.Err)]++
	} else {
		met[op]++
	}
	if !x.arena.Step() || !x.graph.Step() {
		t.Fatalf("P2205: step %d, of %d: %+v, %+v", s.out.Steps, op, x.arena.Outcome(), x.graph.Outcome())
	}
	tells(t, "P2209: the arena", x.arena.Outcome(), s.out)
	tells(t, "P2209: the graph", x.graph.Outcome(), s.out)
	if x.arena.Steps() != s.out.Steps || x.arena.Running() != (s.out.End == api.Running) {
		t.Fatalf("Steps, Running: %d, %v of %+v", x.arena.Steps(), x.arena.Running(), s.out)
	}
}

// Programs of all sorts: what the chapter says step by step, over both sorts of heaps.
func TestP2209(t *testing.T) {
	met := map[int]int{} // how often each instruction was made, and each failure (below 0)
	for seed := range 150 {
		r := rand.New(rand.NewSource(int64(seed)))
		p := grow(t, r, true)
		x, s := bothOf(t, p), simply(t, p)
		for n := 0; n < 900 && s.out.End == api.Running; n++ {
			x.step(t, s, met)
			if t.Failed() {
				t.Fatalf("seed %d", seed)
			}
			if n%50 == 0 || s.out.End != api.Running {
				g, _ := s.h.Graph(list{s.frame, s.globals})
				if !graph.Equal(x.alike(t), g) {
					t.Fatalf("P2206: seed %d: step %d: the graph is another one", seed, n)
				}
			}
			if r.Intn(60) == 0 {
				collect(t, x.arena.heap, x.arena.Roots())
				collect(t, x.graph.heap, x.graph.Roots())
				collect(t, s.h, list{s.frame, s.globals})
				x.arena.Collected()
				x.graph.Collected()
				s.out.Collections = append(s.out.Collections, s.out.Steps)
			}
		}
	}
	for op := 1; op <= 75; op++ {
		if (op <= 22 || op >= 30) && op != api.OpError && met[op] < 20 {
			t.Errorf("the test makes %d %d times alone", op, met[op])
		}
	}
	for _, e := range []api.Errno{80, 81, 82, 83, 85, 86, 87} {
		if met[-int(e)] < 1 {
			t.Errorf("the test never fails with %v", e)
		}
	}
}

// A collection turns nothing for a program that does not observe.
func TestP2209Collections(t *testing.T) {
	ends := map[int]int{}
	for seed := range 60 {
		r := rand.New(rand.NewSource(int64(1000 + seed)))
		p := grow(t, r, false)
		run := func(h prim.Heap, every int) api.Outcome {
			m := started(t, h, p, 0)
			for n := range 1000 {
				if every > 0 && n%every == 0 {
					collect(t, h, m.Roots())
				}
				if !m.Step() {
					break
				}
			}
			return m.Outcome()
		}
		want := run(graph.New(), 0)
		ends[want.End]++
		for _, every := range []int{1, 50} {
			tells(t, "P2209: the graph", run(graph.New(), every), want)
			tells(t, "P2209: the arena", run(arena(t, 700), every), want)
		}
		if t.Failed() {
			t.Fatalf("seed %d", seed)
		}
	}
	if ends[api.Running] < 2 || ends[api.Done] < 10 || ends[api.Failed] < 10 {
		t.Errorf("the test's runs end %v", ends)
	}
}
