package prim

import (
	"slices"

	"hearth/api"
	"hearth/layout"
	"hearth/value"
)

// room is the need of an object of a kind that has no parts.
func room(kind int) need {
	return func(c call) ([]int, api.Fail) {
		size, _ := layout.Size(kind, 0)
		return []int{size}, api.Fail{}
	}
}

// build makes an object of a kind whose words are the operands.
func build(kind int) instruction {
	return func(c call) (api.Value, api.Fail) {
		return c.fill(kind, 0, c.args)
	}
}

// fill makes an object of a kind with n parts, and sets its words.
func (c call) fill(kind, n int, words []api.Value) (api.Value, api.Fail) {
	v, fault := c.heap.Make(kind, n, 0)
	for i := 0; i < len(words) && fault.Err == api.OK; i++ {
		fault = c.heap.Set(v, 1+i, words[i])
	}
	return told(v, fault)
}

// get tells the word i of the first operand.
func get(i int) instruction {
	return func(c call) (api.Value, api.Fail) {
		return told(c.heap.Get(c.args[0], i))
	}
}

// set turns the word i of the first operand: it becomes the last one.
func set(i int) instruction {
	return func(c call) (api.Value, api.Fail) {
		return told(void(), c.heap.Set(c.args[0], i, c.args[len(c.args)-1]))
	}
}

// vectorRoom is the need of a vector of as many elements as the first operand says.
func vectorRoom(c call) ([]int, api.Fail) {
	n := c.args[0].N
	size, ok := layout.Size(api.KindVector, n)
	if !ok {
		return nil, api.Fail{Err: api.ErrRange, N: n}
	}
	return []int{size}, api.Fail{}
}

// vector makes a vector of as many of the second operand as the first one says.
func vector(c call) (api.Value, api.Fail) {
	if _, fail := vectorRoom(c); fail.Err != api.OK {
		return api.Value{}, fail
	}
	n := c.args[0].N
	return c.fill(api.KindVector, n, slices.Repeat(c.args[1:], n))
}

// elements is how many elements the vector has that is the first operand.
func (c call) elements() int { return c.size - 1 }

// element does to that element of a vector which the second operand names what is done to a word.
func element(word func(i int) instruction) instruction {
	return func(c call) (api.Value, api.Fail) {
		i := c.args[1].N
		if i < 0 || i >= c.elements() {
			return fails(api.ErrIndex, i)
		}
		return word(1 + i)(c)
	}
}

// vectorLen tells how many elements a vector has.
func vectorLen(c call) (api.Value, api.Fail) {
	return value.Fix(c.elements()), api.Fail{}
}

// textLen tells how many bytes a text has.
func textLen(c call) (api.Value, api.Fail) {
	text, fault := c.heap.Text(c.args[0])
	return told(value.Fix(len(text)), fault)
}

// textRef tells a byte of a text.
func textRef(c call) (api.Value, api.Fail) {
	text, fault := c.heap.Text(c.args[0])
	if fault.Err != api.OK {
		return api.Value{}, failed(fault)
	}
	i := c.args[1].N
	if i < 0 || i >= len(text) {
		return fails(api.ErrIndex, i)
	}
	return value.Fix(int(text[i])), api.Fail{}
}

// textEq tells whether two texts have the same bytes.
func textEq(c call) (api.Value, api.Fail) {
	a, fault := c.heap.Text(c.args[0])
	if fault.Err != api.OK {
		return api.Value{}, failed(fault)
	}
	b, fault := c.heap.Text(c.args[1])
	return told(truth(slices.Equal(a, b)), fault)
}

// same tells whether two operands are one value.
func same(c call) (api.Value, api.Fail) {
	return truth(c.args[0] == c.args[1]), api.Fail{}
}

// kind tells what a value is, of a reference what it refers to.
func kind(c call) (api.Value, api.Fail) {
	v := c.args[0]
	if v.Kind != api.ValRef {
		return value.Fix(typeOf(v)), api.Fail{}
	}
	b, fault := c.heap.Open(v)
	return told(value.Fix(b.Kind), fault)
}

// not tells whether a value is false.
func not(c call) (api.Value, api.Fail) {
	return truth(c.args[0] == truth(false)), api.Fail{}
}
