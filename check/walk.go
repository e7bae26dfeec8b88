package check

import (
	"cmp"
	"slices"

	"hearth/api"
)

// none is the depth of an instruction to which no way is known.
const none = -1

// worklist is what is still to be gone through, the least of it last.
type worklist[T cmp.Ordered] struct{ falling []T }

// put puts a thing there, above those that are less.
func (w *worklist[T]) put(x T) {
	at, _ := slices.BinarySearchFunc(w.falling, x, func(there, x T) int { return cmp.Compare(x, there) })
	w.falling = slices.Insert(w.falling, at, x)
}

// take takes the least thing that is there; false: there is none.
func (w *worklist[T]) take() (T, bool) {
	var x T
	if len(w.falling) == 0 {
		return x, false
	}
	last := len(w.falling) - 1
	x, w.falling = w.falling[last], w.falling[:last]
	return x, true
}

// walk is how far the ways through a function are gone.
type walk struct {
	function
	depths []int
	rest   worklist[int] // the instructions whose depths are known and that are not gone through
}

// ways goes all ways through a function, and tells the depths of its instructions.
func ways(f function) []int {
	w := &walk{function: f, depths: slices.Repeat([]int{none}, len(f.Code))}
	w.meet(0, 0)
	for i, ok := w.rest.take(); ok; i, ok = w.rest.take() {
		w.through(i)
	}
	return w.depths
}

// meet makes an instruction's depth known.
func (w *walk) meet(i, depth int) {
	w.depths[i] = depth
	w.rest.put(i)
}

// through goes through an instruction, on to those that may come behind it.
func (w *walk) through(i int) {
	in := w.Code[i]
	depth := w.depths[i] - w.takes(in)
	w.want(depth >= 0, api.ErrUnder, i)
	depth += puts(in.Op)
	w.want(depth <= api.MaxStack, api.ErrOver, i)
	if goesOn(in.Op) {
		w.want(i+1 < len(w.Code), api.ErrRuns, i)
		w.on(i, i+1, depth)
	}
	if jumps(in.Op) {
		w.on(i, in.A, depth)
	}
}

// on goes from an instruction on to the next one, with a depth.
func (w *walk) on(from, next, depth int) {
	if w.depths[next] == none {
		w.meet(next, depth)
	}
	w.want(w.depths[next] == depth, api.ErrMeet, from)
}
