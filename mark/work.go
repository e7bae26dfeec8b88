package mark

// room is how many places the worklist's channel holds. A few are enough for most heaps, however long their lists are.
const room = 256

// worklist is what was reached and is still to be looked at, in no order that anything hangs on.
type worklist struct {
	near chan int
	rest []int // what has found no room in the channel
}

// newWorklist is an empty worklist.
func newWorklist() worklist { return worklist{near: make(chan int, room)} }

// put puts a place there.
func (w *worklist) put(at int) {
	select {
	case w.near <- at:
	default:
		w.rest = append(w.rest, at)
	}
}

// take takes a place; false: there is none.
func (w *worklist) take() (int, bool) {
	select {
	case at := <-w.near:
		return at, true
	default:
		return w.takeRest()
	}
}

// takeRest takes the last place of the list.
func (w *worklist) takeRest() (int, bool) {
	last := len(w.rest) - 1
	if last < 0 {
		return 0, false
	}
	at := w.rest[last]
	w.rest = w.rest[:last]
	return at, true
}
