package asm

import "hearth/api"

// names are those of the instructions.
var names = [...]string{
	api.OpFix: "fix", api.OpChar: "char", api.OpImm: "imm", api.OpText: "text", api.OpFlo: "flo",
	api.OpLocal: "local", api.OpSetLocal: "setlocal", api.OpCaptured: "captured", api.OpGlobal: "global", api.OpSetGlobal: "setglobal",
	api.OpPop: "pop", api.OpDup: "dup", api.OpSwap: "swap", api.OpJump: "jump", api.OpBranch: "branch",
	api.OpClosure: "closure", api.OpCall: "call", api.OpTail: "tail", api.OpReturn: "return", api.OpCallCC: "callcc",
	api.OpHalt: "halt", api.OpError: "error",

	api.OpCons: "cons", api.OpCar: "car", api.OpCdr: "cdr", api.OpSetCar: "setcar", api.OpSetCdr: "setcdr",
	api.OpBox: "box", api.OpUnbox: "unbox", api.OpSetBox: "setbox",
	api.OpVector: "vector", api.OpVectorRef: "vectorref", api.OpVectorSet: "vectorset", api.OpVectorLen: "vectorlen",
	api.OpTextLen: "textlen", api.OpTextRef: "textref", api.OpTextEq: "texteq",
	api.OpEq: "eq", api.OpKind: "kind", api.OpNot: "not",
	api.OpAdd: "add", api.OpSub: "sub", api.OpMul: "mul", api.OpQuot: "quot", api.OpRem: "rem", api.OpLess: "less",
	api.OpFloAdd: "floadd", api.OpFloSub: "flosub", api.OpFloMul: "flomul", api.OpFloDiv: "flodiv", api.OpFloLess: "floless",
	api.OpToFlo: "toflo", api.OpToFix: "tofix", api.OpCharFix: "charfix", api.OpFixChar: "fixchar",
	api.OpWeakCons: "weakcons", api.OpWeakCar: "weakcar", api.OpWeakCdr: "weakcdr", api.OpSetWeakCdr: "setweakcdr",
	api.OpEph: "eph", api.OpEphKey: "ephkey", api.OpEphVal: "ephval",
	api.OpTable: "table", api.OpTableGet: "tableget", api.OpTablePut: "tableput", api.OpTableDel: "tabledel", api.OpTableCount: "tablecount",
	api.OpOut: "out",
}

// immediates are the words of the immediates, by their codes.
var immediates = [...]string{
	api.ImmNil: "nil", api.ImmFalse: "false", api.ImmTrue: "true", api.ImmVoid: "void", api.ImmBroken: "broken", api.ImmUnbound: "unbound",
}

// The words that are no instruction's, or stand for more than one.
const (
	globalsWord = "globals"
	textWord    = "text"
	funcWord    = "func"
	labelEnd    = ":"
	floBegins   = "0x"
)

// operand is how the operand of an instruction is told.
type operand int

const (
	without operand = iota
	plain           // a decimal number
	signed
	bits
	char
	immediate
	target // of a jump
)

// operandOf tells how the operand of an instruction is told.
func operandOf(op int) operand {
	switch op {
	case api.OpFix:
		return signed
	case api.OpFlo:
		return bits
	case api.OpChar:
		return char
	case api.OpImm:
		return immediate
	case api.OpJump, api.OpBranch:
		return target
	case api.OpText, api.OpLocal, api.OpSetLocal, api.OpCaptured, api.OpGlobal, api.OpSetGlobal, api.OpClosure, api.OpCall, api.OpTail:
		return plain
	}
	return without
}

// opOf is the instruction of a name.
func opOf(name string) int {
	for op, n := range names {
		if n == name {
			return op
		}
	}
	panic(wrong{})
}
