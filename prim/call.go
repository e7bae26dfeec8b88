package prim

import (
	"hearth/api"
	"hearth/value"
)

// The types of operands, beside the kinds of objects: those of values that refer to nothing have the numbers that the instruction kind tells of them.
const (
	anything = 0
	fixnum   = 20
	imm      = 21
	char     = 22
)

// row is what an instruction is.
type row struct {
	types []int       // of its operands
	needs need        // nil: it makes no objects
	do    instruction // all that it does, once the types are right
}

// need tells the sizes of the objects that an instruction makes.
type need func(c call) ([]int, api.Fail)

// instruction answers what an instruction puts.
type instruction func(c call) (api.Value, api.Fail)

// call is an instruction with operands of the right types.
type call struct {
	row
	heap Heap
	args []api.Value
	size int // in words, of the first operand's object, where its type is a kind of objects
}

// look looks at an instruction and its operands.
func (s Set) look(h Heap, op int, args []api.Value) (call, api.Fail) {
	r, ok := s.rows[op]
	if !ok || len(args) != len(r.types) {
		return call{}, api.Fail{Err: api.ErrArg}
	}
	for _, v := range args {
		if !value.Valid(v) {
			return call{}, api.Fail{Err: api.ErrValue}
		}
	}
	c := call{row: r, heap: h, args: args}
	for i := range args {
		size, fail := c.check(i)
		if fail.Err != api.OK {
			return call{}, fail
		}
		if i == 0 {
			c.size = size
		}
	}
	return c, api.Fail{}
}

// check holds an operand against its type, and tells the size of its object, if it was opened: only a reference is, and only where an object is asked for.
func (c call) check(i int) (int, api.Fail) {
	want, have := c.types[i], typeOf(c.args[i])
	if want == anything {
		return 0, api.Fail{}
	}
	var b api.Block
	if have == anything && want < fixnum {
		var fault api.Fault
		if b, fault = c.heap.Open(c.args[i]); fault.Err != api.OK {
			return 0, failed(fault)
		}
		have = b.Kind
	}
	if have != want {
		return 0, api.Fail{Err: api.ErrType, N: i + 1}
	}
	return b.Size, api.Fail{}
}

// typeOf is the type of a value that refers to nothing; of a reference it might be that of any object.
func typeOf(v api.Value) int {
	switch v.Kind {
	case api.ValFix:
		return fixnum
	case api.ValImm:
		return imm
	case api.ValChar:
		return char
	}
	return anything
}

// failed is a fault of the heap, as an instruction tells it.
func failed(fault api.Fault) api.Fail { return api.Fail{Err: fault.Err, At: fault.At} }

// told is a value that the heap has answered, or that is answered if the heap has had no fault.
func told(v api.Value, fault api.Fault) (api.Value, api.Fail) {
	if fault.Err != api.OK {
		return api.Value{}, failed(fault)
	}
	return v, api.Fail{}
}

// fails is a value that is not there, for an error of the program that is run.
func fails(errno api.Errno, n int) (api.Value, api.Fail) {
	return api.Value{}, api.Fail{Err: errno, N: n}
}

// void is what an instruction puts that is made for what it does alone.
func void() api.Value { return value.Imm(api.ImmVoid) }

// truth is true or false as a value.
func truth(holds bool) api.Value {
	if holds {
		return value.Imm(api.ImmTrue)
	}
	return value.Imm(api.ImmFalse)
}
