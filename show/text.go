package show

import (
	"slices"
	"strconv"

	"hearth/api"
)

// What is still to be told.
const (
	whole = iota // a value
	rest         // a pair's cdr, as the rest of a list
	blank        // what stands between the values of a vector
	end          // what closes a list or a vector
)

// task is something that is still to be told.
type task struct {
	what  int
	value api.Value
}

// teller puts the text of a walk together. Its tasks are a stack, so that no depth is too great.
type teller struct {
	walk   *walk
	tasks  []task
	pieces []string
}

func (t *teller) add(pieces ...string) { t.pieces = append(t.pieces, pieces...) }

// later puts tasks on the stack, the first one on top.
func (t *teller) later(tasks ...task) {
	slices.Reverse(tasks)
	t.tasks = append(t.tasks, tasks...)
}

// text is the text of the value from which the walk went.
func (t *teller) text(v api.Value) string {
	t.later(task{whole, v})
	for len(t.tasks) > 0 {
		top := len(t.tasks) - 1
		next := t.tasks[top]
		t.tasks = t.tasks[:top]
		switch next.what {
		case whole:
			t.whole(next.value)
		case rest:
			t.rest(next.value)
		case blank:
			t.add(" ")
		case end:
			t.add(")")
		}
	}
	return joined(t.pieces...)
}

// whole tells a value.
func (t *teller) whole(v api.Value) {
	if v.Kind != api.ValRef {
		t.add(simple(v))
		return
	}
	x := t.walk.thing(v)
	if !x.container() {
		t.add(x.form)
		return
	}
	if x.label != unlabelled {
		n := strconv.Itoa(x.label)
		if x.told {
			t.add("#", n, "#")
			return
		}
		x.told = true
		t.add("#", n, "=")
	}
	t.container(x)
}

// container tells a container's form.
func (t *teller) container(x *thing) {
	switch x.kind {
	case api.KindPair:
		t.add("(")
		t.pair(x)
	case api.KindBox:
		t.add("#&")
		t.later(task{whole, x.values[0]})
	case api.KindVector:
		t.add("#(")
		t.later(row(x.values)...)
	}
}

// pair tells what a pair holds, inside of a list.
func (t *teller) pair(x *thing) {
	t.later(task{whole, x.values[0]}, task{rest, x.values[1]})
}

// rest tells what comes behind a car.
func (t *teller) rest(v api.Value) {
	if v.Kind == api.ValRef {
		if x := t.walk.thing(v); x.kind == api.KindPair && x.label == unlabelled {
			t.add(" ")
			t.pair(x)
			return
		}
	}
	if v.Kind == api.ValImm && v.N == api.ImmNil {
		t.add(")")
		return
	}
	t.add(" . ")
	t.later(task{whole, v}, task{what: end})
}

// row is a vector's values with blanks between, and its end.
func row(values []api.Value) []task {
	var tasks []task
	for i, v := range values {
		if i > 0 {
			tasks = append(tasks, task{what: blank})
		}
		tasks = append(tasks, task{whole, v})
	}
	return append(tasks, task{what: end})
}
