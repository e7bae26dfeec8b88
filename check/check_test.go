package check

import (
	"math/rand"
	"strings"
	"testing"

	"hearth/api"
)

// asked tells a fault, if Check answers otherwise, or leaves its argument otherwise.
func asked(t testing.TB, promise string, p api.Program, want api.Checked, f, i int, errno api.Errno) {
	t.Helper()
	kept := clone(p)
	if c, n, j, e := Check(p); n != f || j != i || e != errno || !alike(c, want) {
		t.Errorf("%s: %v: %v, %d, %d, %v; want %v, %d, %d, %v", promise, shown(p), c, n, j, e, want, f, i, errno)
	}
	if !sameProgram(p, kept) {
		t.Errorf("%s: Check has turned the program", promise)
	}
}

// shown tells of a long program its beginning alone.
func shown(p api.Program) api.Program {
	p = clone(p)
	p.Texts = p.Texts[:min(len(p.Texts), 3)]
	p.Funcs = p.Funcs[:min(len(p.Funcs), 4)]
	for n, f := range p.Funcs {
		p.Funcs[n].Code = f.Code[:min(len(f.Code), 60)]
	}
	return p
}

// refused tells a fault, if the program is not refused at that place.
func refused(t testing.TB, promise string, p api.Program, f, i int, errno api.Errno) {
	t.Helper()
	asked(t, promise, p, api.Checked{}, f, i, errno)
}

// passes tells a fault, if the program, of one function, is not taken with these slots and depths.
func passes(t testing.TB, promise string, p api.Program, slots int, depths ...int) {
	t.Helper()
	asked(t, promise, p, api.Checked{Slots: []int{slots}, Depths: [][]int{depths}}, 0, 0, api.OK)
}

// taken tells a fault, if the program is not taken, or otherwise than the chapter says.
func taken(t testing.TB, promise string, p api.Program) {
	t.Helper()
	c, _, _, _ := plainCheck(p)
	asked(t, promise, p, c, 0, 0, api.OK)
}

// op is an instruction, with its operand, if it has one.
func op(n int, a ...int) api.Ins {
	in := api.Ins{Op: n}
	if len(a) > 0 {
		in.A = a[0]
	}
	return in
}

func fix() api.Ins         { return op(api.OpFix, 1) }
func pop() api.Ins         { return op(api.OpPop) }
func halt() api.Ins        { return op(api.OpHalt) }
func jump(n int) api.Ins   { return op(api.OpJump, n) }
func branch(n int) api.Ins { return op(api.OpBranch, n) }

// fn is a function of these instructions.
func fn(list ...api.Ins) api.Func { return api.Func{Code: list} }

// one is a program of one function of these instructions.
func one(list ...api.Ins) api.Program { return all(fn(list...)) }

// all is a program of these functions.
func all(list ...api.Func) api.Program { return api.Program{Funcs: list} }

// good is a function in which nothing is wrong.
func good() api.Func { return fn(fix(), halt()) }

// times is so many of one instruction, and then others.
func times(n int, in api.Ins, behind ...api.Ins) []api.Ins {
	var list []api.Ins
	for range n {
		list = append(list, in)
	}
	return append(list, behind...)
}

func TestPlainTables(t *testing.T) {
	if len(lowTakes) != 23 || len(lowPuts) != 23 || len(highTakes) != 46 {
		t.Fatalf("the tables have %d, %d, %d instructions", len(lowTakes), len(lowPuts), len(highTakes))
	}
	if strings.Count(highTakes, "3") != 3 || strings.Count(highTakes, "0") != 1 {
		t.Errorf("the table is none of DOC.md's")
	}
}

func TestExamples(t *testing.T) {
	ret := op(api.OpReturn)
	passes(t, "P1905", one(op(api.OpFix, 5), ret), 1, 0, 1)
	refused(t, "P1902", all(api.Func{Params: 1, Code: []api.Ins{fix(), ret}}), 0, 0, api.ErrMain)
	refused(t, "P1903", one(), 0, 0, api.ErrFunc)
	refused(t, "P1903", all(good(), api.Func{Params: 2, Locals: 1, Code: []api.Ins{fix(), ret}}), 1, 0, api.ErrFunc)
	for _, in := range []api.Ins{op(api.OpImm, 5), op(api.OpChar, 0xD800), op(api.OpLocal, 0), op(api.OpCall, 9)} {
		refused(t, "P1903", one(in, ret), 0, 0, api.ErrOperand)
	}
	refused(t, "P1903", one(op(api.OpCall, 9)), 0, 0, api.ErrOperand)
	refused(t, "P1903", one(fix(), jump(2)), 0, 1, api.ErrJump)
	refused(t, "P1904", one(pop(), halt()), 0, 0, api.ErrUnder)
	refused(t, "P1904", one(fix(), op(api.OpAdd), ret), 0, 1, api.ErrUnder)
	refused(t, "P1904", one(times(65, fix(), halt())...), 0, 64, api.ErrOver)
	refused(t, "P1904", one(fix(), jump(0)), 0, 1, api.ErrMeet)
	refused(t, "P1904", one(fix(), branch(3), op(api.OpFix, 2), ret), 0, 2, api.ErrMeet)
	refused(t, "P1904", one(fix(), pop()), 0, 1, api.ErrRuns)
	passes(t, "P1905", one(fix(), ret, pop(), pop()), 1, 0, 1, -1, -1)
	passes(t, "P1905", one(fix(), branch(0), jump(0)), 1, 0, 1, 0)
}

// What code.Write refuses, for its form or for its length, is no program.
func TestP1901Form(t *testing.T) {
	many := func(n int) []api.Func {
		var list []api.Func
		for range n {
			list = append(list, good())
		}
		return list
	}
	taken(t, "P1901", all(many(64)...))
	texts := api.Program{Texts: make([][]byte, 65), Funcs: many(1)}
	long := api.Program{Texts: [][]byte{make([]byte, 4097)}, Funcs: many(1)}
	for _, p := range []api.Program{
		{}, {Globals: 5}, all(many(65)...), texts, long,
		{Globals: -1, Funcs: many(1)}, {Globals: 65, Funcs: many(1)}, {Globals: -1 << 63, Funcs: many(1)},
		all(good(), api.Func{Params: 9, Locals: 9, Code: good().Code}), all(good(), api.Func{Params: -1, Code: good().Code}),
		all(api.Func{Locals: 65, Code: good().Code}), all(api.Func{Locals: -1, Code: good().Code}),
		all(good(), api.Func{Captures: 65, Code: good().Code}), all(good(), api.Func{Captures: -1, Code: good().Code}),
		one(times(4096, fix(), halt())...),
		one(op(0)), one(op(23)), one(op(29)), one(op(76)), one(op(-1)), one(op(256 + api.OpHalt)), one(op(1<<32 + api.OpHalt)),
		one(op(api.OpPop, 1)), one(op(api.OpFix, 1<<60), halt()), one(op(api.OpFix, -1<<60-1), halt()),
		one(jump(-1)), one(op(api.OpImm, -1), halt()), one(op(api.OpChar, -1), halt()), one(op(api.OpChar, 1<<32+65), halt()), one(jump(2097152)),
		one(fix(), op(api.OpCall, -1), halt()), one(fix(), op(api.OpCall, -1<<63), halt()),
	} {
		refused(t, "P1901", p, 0, 0, api.ErrForm)
	}
}

// A program of too many bytes is refused for that alone; one of just as many as may be is none of these.
func TestP1901Long(t *testing.T) {
	p := one(jump(0))
	for range 16 {
		p.Texts = append(p.Texts, make([]byte, 4000))
	}
	n := 65536 - 4 - 1 - 1 - 16*4002 - 1 - 3 - 2
	p.Funcs[0].Code = append(p.Funcs[0].Code, times(n-2, pop())...)
	taken(t, "P1901", p)
	p.Funcs[0].Code = append(p.Funcs[0].Code, pop())
	refused(t, "P1901", p, 0, 0, api.ErrForm)
}

func TestP1901First(t *testing.T) {
	wrong := fn(fix(), op(23))
	refused(t, "P1901", all(api.Func{Params: 1, Code: good().Code}, wrong), 0, 0, api.ErrForm)
	refused(t, "P1901", all(fn(), wrong), 0, 0, api.ErrForm)
	refused(t, "P1901", all(fn(op(api.OpImm, 5)), wrong), 0, 0, api.ErrForm)
	refused(t, "P1901", all(fn(pop()), wrong), 0, 0, api.ErrForm)
	refused(t, "P1901", all(api.Func{Params: 9, Captures: 1}), 0, 0, api.ErrForm)
}

func TestP1902Main(t *testing.T) {
	for n := 1; n <= 8; n++ {
		refused(t, "P1902", all(api.Func{Params: n, Locals: 8, Code: good().Code}), 0, 0, api.ErrMain)
	}
	for _, n := range []int{1, 2, 64} {
		refused(t, "P1902", all(api.Func{Captures: n, Code: good().Code}), 0, 0, api.ErrMain)
	}
	refused(t, "P1902", all(api.Func{Params: 1, Captures: 1, Locals: 1, Code: good().Code}), 0, 0, api.ErrMain)
	passes(t, "P1902", all(api.Func{Locals: 64, Code: good().Code}), 65, 0, 1)
	taken(t, "P1902", all(good(), api.Func{Params: 8, Locals: 8, Captures: 64, Code: good().Code}))
}

func TestP1902AheadOfFunctions(t *testing.T) {
	refused(t, "P1902", all(api.Func{Params: 1}), 0, 0, api.ErrMain)
	refused(t, "P1902", all(api.Func{Captures: 1}), 0, 0, api.ErrMain)
	refused(t, "P1902", all(api.Func{Captures: 1, Code: []api.Ins{op(api.OpImm, 5)}}), 0, 0, api.ErrMain)
	refused(t, "P1902", all(api.Func{Captures: 1, Code: []api.Ins{fix(), pop()}}, fn()), 0, 0, api.ErrMain)
}

func TestP1903Functions(t *testing.T) {
	for params := range 9 {
		for locals := range 11 {
			p := all(good(), good(), api.Func{Params: params, Locals: locals, Code: good().Code}, good())
			if params <= locals {
				taken(t, "P1903", p)
			} else {
				refused(t, "P1903", p, 2, 0, api.ErrFunc)
			}
		}
	}
	refused(t, "P1903", all(good(), good(), fn()), 2, 0, api.ErrFunc)
	refused(t, "P1903", all(good(), api.Func{Params: 1, Locals: 1, Code: []api.Ins{}}, fn()), 1, 0, api.ErrFunc)
}

// The first function at which something is wrong is told, and of its instructions the first one; none is gone through yet.
func TestP1903Order(t *testing.T) {
	operand, aside := op(api.OpImm, 5), jump(9)
	broken := api.Func{Params: 1, Code: []api.Ins{operand}}
	refused(t, "P1903", all(good(), broken), 1, 0, api.ErrFunc)
	refused(t, "P1903", all(fn(fix(), operand), broken), 0, 1, api.ErrOperand)
	refused(t, "P1903", all(fn(fix(), aside), broken), 0, 1, api.ErrJump)
	refused(t, "P1903", all(good(), fn(fix(), aside), fn(operand)), 1, 1, api.ErrJump)
	refused(t, "P1903", one(fix(), aside, operand), 0, 1, api.ErrJump)
	refused(t, "P1903", one(fix(), operand, aside), 0, 1, api.ErrOperand)
	refused(t, "P1903", one(fix(), halt(), pop(), operand), 0, 3, api.ErrOperand)
	refused(t, "P1903", one(fix(), halt(), pop(), aside), 0, 3, api.ErrJump)
	for _, ways := range [][]api.Ins{{pop(), halt()}, {fix(), pop()}, {fix(), jump(0)}, times(65, fix(), halt())} {
		refused(t, "P1903", all(fn(ways...), good(), fn(fix(), halt(), operand)), 2, 2, api.ErrOperand)
		refused(t, "P1903", all(fn(ways...), good(), fn(fix(), halt(), aside)), 2, 2, api.ErrJump)
		refused(t, "P1903", all(fn(ways...), good(), fn()), 2, 0, api.ErrFunc)
	}
}

// operands is an instruction whose operand has a bound: how many are right, in which program.
type operands struct {
	op, right int
	where     api.Program
}

// Of each instruction the last operand that is right and the first one that is not, by every number that bounds it.
func TestP1903Operands(t *testing.T) {
	list := []operands{
		{op: api.OpChar, right: 0xD800},
		{op: api.OpImm, right: 5},
		{op: api.OpCall, right: 9},
		{op: api.OpTail, right: 9},
	}
	for _, n := range []int{0, 1, 2, 7, 63, 64} {
		locals, captures := all(fn(), api.Func{Locals: n}), all(fn(), api.Func{Captures: n})
		list = append(list,
			operands{api.OpText, n, api.Program{Texts: make([][]byte, n), Funcs: make([]api.Func, 2)}},
			operands{api.OpLocal, n, locals}, operands{api.OpSetLocal, n, locals},
			operands{api.OpCaptured, n, captures},
			operands{api.OpGlobal, n, api.Program{Globals: n, Funcs: make([]api.Func, 2)}},
			operands{api.OpSetGlobal, n, api.Program{Globals: n, Funcs: make([]api.Func, 2)}},
			operands{api.OpClosure, max(n, 2), all(make([]api.Func, max(n, 2))...)},
		)
	}
	for _, x := range list {
		p := clone(x.where)
		if len(p.Funcs) == 0 {
			p.Funcs = make([]api.Func, 2)
		}
		for n := range p.Funcs {
			p.Funcs[n].Code = good().Code
		}
		for _, a := range []int{0, 1, max(x.right-1, 0), x.right, x.right + 1, 2097151} {
			p.Funcs[1].Code = []api.Ins{fix(), halt(), op(x.op, a)}
			if a < x.right {
				taken(t, "P1903", p)
			} else {
				refused(t, "P1903", p, 1, 2, api.ErrOperand)
			}
		}
	}
}

func TestP1903Chars(t *testing.T) {
	for _, a := range []int{0, 1, 65, 127, 128, 255, 256, 0xD7FE, 0xD7FF, 0xE000, 0xE001, 0xFFFD, 0xFFFE, 0xFFFF, 0x10000, 0x10FFFE, 0x10FFFF} {
		passes(t, "P1903", one(op(api.OpChar, a), halt()), 1, 0, 1)
	}
	for a := 0xD800; a <= 0xDFFF; a++ {
		refused(t, "P1903", one(op(api.OpChar, a), halt()), 0, 0, api.ErrOperand)
	}
	for _, a := range []int{0x110000, 0x110001, 0x1FFFFF} {
		refused(t, "P1903", one(op(api.OpChar, a), halt()), 0, 0, api.ErrOperand)
	}
}

// Any fixnum, and any bits of a float, are right.
func TestP1903AlwaysRight(t *testing.T) {
	for _, a := range []int{0, -1, 1, 9, 65, 2097152, 1<<60 - 1, -1 << 60} {
		passes(t, "P1903", one(op(api.OpFix, a), halt()), 1, 0, 1)
	}
	for _, a := range []int{0, -1, 1, 9, 65, 2097152, 1<<63 - 1, -1 << 63} {
		passes(t, "P1903", one(op(api.OpFlo, a), halt()), 1, 0, 1)
	}
}

// What is counted of one function is nothing of another's.
func TestP1903OwnNumbers(t *testing.T) {
	for _, x := range []struct {
		in  api.Ins
		has api.Func
	}{
		{op(api.OpLocal, 1), api.Func{Locals: 2}}, {op(api.OpCaptured, 1), api.Func{Captures: 2}}, {jump(3), fn(jump(0), jump(0), jump(0), jump(0))},
	} {
		other := x.has
		if len(other.Code) == 0 {
			other.Code = good().Code
		}
		errno := api.ErrOperand
		if x.in.Op == api.OpJump {
			errno = api.ErrJump
		}
		refused(t, "P1903", all(good(), other, fn(fix(), x.in)), 2, 1, errno)
		refused(t, "P1903", all(good(), fn(fix(), x.in), other), 1, 1, errno)
	}
}

func TestP1903Jumps(t *testing.T) {
	for a := range 4 {
		taken(t, "P1903", one(jump(a), jump(0), jump(0), jump(0)))
		taken(t, "P1903", one(jump(3), jump(0), jump(0), jump(a)))
	}
	for _, a := range []int{4, 5, 4095, 4096, 2097151} {
		refused(t, "P1903", one(jump(a), jump(0), jump(0), jump(0)), 0, 0, api.ErrJump)
		refused(t, "P1903", one(jump(3), jump(0), jump(0), jump(a)), 0, 3, api.ErrJump)
		refused(t, "P1903", one(fix(), branch(a), jump(0), jump(0)), 0, 1, api.ErrJump)
		refused(t, "P1903", one(jump(0), jump(0), jump(0), branch(a)), 0, 3, api.ErrJump)
	}
	last := times(4095, jump(4095), jump(0))
	taken(t, "P1903", one(last...))
	last[7] = jump(4096)
	refused(t, "P1903", one(last...), 0, 7, api.ErrJump)
}

// Programs that are right, and programs that are marred without a rule.
func TestAgainstPlainWords(t *testing.T) {
	source := rand.New(rand.NewSource(1))
	told := map[api.Errno]int{}
	for turn := range 60000 {
		p := someProgram(source)
		if turn%3 > 0 {
			mar(source, p)
		}
		c, f, i, errno := plainCheck(p)
		if turn%3 == 0 && errno != api.OK {
			t.Fatalf("%v is not right: %d, %d, %v", p, f, i, errno)
		}
		told[errno]++
		asked(t, "P1901 to P1905", p, c, f, i, errno)
	}
	for _, errno := range []api.Errno{api.OK, api.ErrForm, api.ErrMain, api.ErrFunc, api.ErrOperand, api.ErrJump, api.ErrUnder, api.ErrOver, api.ErrMeet, api.ErrRuns} {
		if told[errno] < 100 {
			t.Errorf("%v was told %d times alone", errno, told[errno])
		}
	}
}
