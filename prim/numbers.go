package prim

import (
	"hearth/api"
	"hearth/fix"
	"hearth/value"
)

// bitsWord is where a float's bits stand.
const bitsWord = 1

// sum reckons with two fixnums.
func sum(f func(a, b int) int) instruction {
	return func(c call) (api.Value, api.Fail) {
		return value.Fix(f(c.args[0].N, c.args[1].N)), api.Fail{}
	}
}

// division is a sum that there is not by 0.
func division(f func(a, b int) int) instruction {
	divide := sum(f)
	return func(c call) (api.Value, api.Fail) {
		if c.args[1].N == 0 {
			return fails(api.ErrDivide, 0)
		}
		return divide(c)
	}
}

// less tells whether the first of two fixnums is less.
func less(c call) (api.Value, api.Fail) {
	return truth(c.args[0].N < c.args[1].N), api.Fail{}
}

// floats reads the bits of the operands, which are two floats.
func (c call) floats() (a, b int, fail api.Fail) {
	a, fault := c.heap.Raw(c.args[0], bitsWord)
	if fault.Err != api.OK {
		return 0, 0, failed(fault)
	}
	b, fault = c.heap.Raw(c.args[1], bitsWord)
	if fault.Err != api.OK {
		return 0, 0, failed(fault)
	}
	return a, b, api.Fail{}
}

// float makes a float of some bits.
func (c call) float(bits int) (api.Value, api.Fail) {
	v, fault := c.heap.Make(api.KindFlo, 0, 0)
	if fault.Err == api.OK {
		fault = c.heap.SetRaw(v, bitsWord, bits)
	}
	return told(v, fault)
}

// floRoom is the need of a float that is reckoned from two others, which can be read.
func floRoom(c call) ([]int, api.Fail) {
	if _, _, fail := c.floats(); fail.Err != api.OK {
		return nil, fail
	}
	return room(api.KindFlo)(c)
}

// floSum reckons with two floats.
func floSum(f func(a, b int) int) instruction {
	return func(c call) (api.Value, api.Fail) {
		a, b, fail := c.floats()
		if fail.Err != api.OK {
			return api.Value{}, fail
		}
		return c.float(f(a, b))
	}
}

// floLess tells whether the first of two floats is less.
func floLess(c call) (api.Value, api.Fail) {
	a, b, fail := c.floats()
	if fail.Err != api.OK {
		return api.Value{}, fail
	}
	return truth(fix.FloLess(a, b)), api.Fail{}
}

// toFlo makes a float of a fixnum.
func toFlo(c call) (api.Value, api.Fail) {
	return c.float(fix.ToFlo(c.args[0].N))
}

// toFix tells the fixnum that a float is, cut toward 0.
func toFix(c call) (api.Value, api.Fail) {
	bits, fault := c.heap.Raw(c.args[0], bitsWord)
	if fault.Err != api.OK {
		return api.Value{}, failed(fault)
	}
	n, ok := fix.ToFix(bits)
	if !ok {
		return fails(api.ErrRange, 0)
	}
	return value.Fix(n), api.Fail{}
}

// charFix tells the number of a char.
func charFix(c call) (api.Value, api.Fail) {
	return value.Fix(c.args[0].N), api.Fail{}
}

// fixChar tells the char of a number.
func fixChar(c call) (api.Value, api.Fail) {
	v := value.Char(c.args[0].N)
	if !value.Valid(v) {
		return fails(api.ErrRange, c.args[0].N)
	}
	return v, api.Fail{}
}
