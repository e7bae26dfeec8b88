package check

import (
	"unicode/utf8"

	"hearth/api"
)

// function is a function of a program, by its number.
type function struct {
	api.Func
	number  int
	program api.Program
}

// functions are those of a program.
func functions(p api.Program) []function {
	var list []function
	for n, f := range p.Funcs {
		list = append(list, function{f, n, p})
	}
	return list
}

// want gives up with an error at an instruction of the function, unless what it asks for holds.
func (f function) want(holds bool, errno api.Errno, i int) { want(holds, errno, f.number, i) }

// checkParts looks at the function's own numbers, and at each of its instructions by itself.
func (f function) checkParts() {
	f.want(f.Params <= f.Locals && len(f.Code) > 0, api.ErrFunc, 0)
	for i, in := range f.Code {
		f.want(f.right(in), api.ErrOperand, i)
		f.want(!jumps(in.Op) || in.A < len(f.Code), api.ErrJump, i)
	}
}

// right tells whether an operand, which can be written, is one that its instruction may have here.
func (f function) right(in api.Ins) bool {
	switch in.Op {
	case api.OpChar:
		return utf8.ValidRune(rune(in.A))
	case api.OpImm:
		return in.A <= api.ImmBroken
	case api.OpText:
		return in.A < len(f.program.Texts)
	case api.OpLocal, api.OpSetLocal:
		return in.A < f.Locals
	case api.OpCaptured:
		return in.A < f.Captures
	case api.OpGlobal, api.OpSetGlobal:
		return in.A < f.program.Globals
	case api.OpClosure:
		return in.A < len(f.program.Funcs)
	case api.OpCall, api.OpTail:
		return in.A <= api.MaxParams
	}
	return true
}

// jumps tells whether an instruction may go on where its operand says.
func jumps(op int) bool { return op == api.OpJump || op == api.OpBranch }

// goesOn tells whether an instruction may go on at the next one.
func goesOn(op int) bool {
	switch op {
	case api.OpJump, api.OpTail, api.OpReturn, api.OpHalt, api.OpError:
		return false
	}
	return true
}

// takes tells how many values an instruction takes from the stack. Those that take more take what those below them do, and one.
func (f function) takes(in api.Ins) int {
	n := 0
	switch in.Op {
	case api.OpClosure:
		n = f.program.Funcs[in.A].Captures
	case api.OpCall, api.OpTail:
		n = in.A + 1
	case api.OpVectorSet, api.OpTableGet, api.OpTablePut:
		n++
		fallthrough
	case api.OpSwap, api.OpCons, api.OpSetCar, api.OpSetCdr, api.OpSetBox, api.OpVector, api.OpVectorRef, api.OpTextRef, api.OpTextEq, api.OpEq,
		api.OpAdd, api.OpSub, api.OpMul, api.OpQuot, api.OpRem, api.OpLess,
		api.OpFloAdd, api.OpFloSub, api.OpFloMul, api.OpFloDiv, api.OpFloLess,
		api.OpWeakCons, api.OpSetWeakCdr, api.OpEph, api.OpTableDel:
		n++
		fallthrough
	case api.OpSetLocal, api.OpSetGlobal, api.OpPop, api.OpDup, api.OpBranch, api.OpReturn, api.OpCallCC, api.OpHalt, api.OpError,
		api.OpCar, api.OpCdr, api.OpBox, api.OpUnbox, api.OpVectorLen, api.OpTextLen, api.OpKind, api.OpNot,
		api.OpToFlo, api.OpToFix, api.OpCharFix, api.OpFixChar,
		api.OpWeakCar, api.OpWeakCdr, api.OpEphKey, api.OpEphVal, api.OpTableCount, api.OpOut:
		n++
	}
	return n
}

// puts tells how many values an instruction puts on the stack.
func puts(op int) int {
	switch op {
	case api.OpSetLocal, api.OpSetGlobal, api.OpPop, api.OpJump, api.OpBranch, api.OpTail, api.OpReturn, api.OpHalt, api.OpError:
		return 0
	case api.OpDup, api.OpSwap:
		return 2
	}
	return 1
}
