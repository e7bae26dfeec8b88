package frame

import "hearth/api"

// waiting is a frame that waits for an answer: how many values the instruction takes at which it stands, and whether it is shared.
type waiting struct {
	View
	block  api.Block
	takes  int
	shared bool
}

// Needs tells the sizes of the objects that a return into a frame would make.
func Needs(h Heap, p api.Program, c api.Checked, f api.Value) ([]int, api.Fault) {
	w, fault := await(h, p, c, f)
	if fault.Err != api.OK || !w.shared {
		return nil, fault
	}
	return []int{w.block.Size}, api.Fault{}
}

// Return goes on in a frame that waits, with an answer: in a copy of it, if it is shared. It tells the frame in which the run goes on.
func Return(h Heap, p api.Program, c api.Checked, f, answer api.Value) (api.Value, api.Fault) {
	w, fault := await(h, p, c, f)
	if fault.Err != api.OK {
		return api.Value{}, fault
	}
	if fault := check(h, answer); fault.Err != api.OK {
		return api.Value{}, fault
	}
	if w.shared {
		if w.Frame, fault = w.again(h); fault.Err != api.OK {
			return api.Value{}, fault
		}
	}
	if fault := Finish(h, w.View, w.takes, []api.Value{answer}, w.Pc+1); fault.Err != api.OK {
		return api.Value{}, fault
	}
	return w.Frame, api.Fault{}
}

// await looks at a frame that is to wait.
func await(h Heap, p api.Program, c api.Checked, f api.Value) (waiting, api.Fault) {
	v, b, fault := look(h, p, c, f)
	if fault.Err != api.OK {
		return waiting{}, fault
	}
	// With its arguments an instruction takes what it calls: one more than they are, which might leave an int.
	args, calls := arguments(p.Funcs[v.Func].Code[v.Pc])
	if !calls || args < 0 || args >= v.Depth {
		return waiting{}, fail(api.ErrCall)
	}
	shared, fault := h.Raw(f, sharedWord)
	if fault.Err != api.OK {
		return waiting{}, fault
	}
	return waiting{v, b, args + 1, shared != 0}, api.Fault{}
}

// arguments is how many an instruction calls with; false: it calls nothing that it waits for. (What callcc calls with is not on the stack.)
func arguments(in api.Ins) (int, bool) {
	switch in.Op {
	case api.OpCall:
		return in.A, true
	case api.OpCallCC:
		return 0, true
	}
	return 0, false
}

// again is a copy of the frame, in which the run can go on while the frame stays for the next time. What both link to is shared from now on: each of them returns into it.
func (w waiting) again(h Heap) (api.Value, api.Fault) {
	to, fault := h.Make(api.KindFrame, slots(w.block), w.block.Tag)
	if fault.Err != api.OK {
		return api.Value{}, fault
	}
	if fault := w.copyWords(h, to); fault.Err != api.OK {
		return api.Value{}, fault
	}
	link, fault := h.Get(to, linkWord)
	if fault.Err == api.OK && link != null() {
		fault = Share(h, link)
	}
	if fault.Err != api.OK {
		return api.Value{}, fault
	}
	return to, api.Fault{}
}

// copyWords gives another frame, which is new, the words of this one.
func (w waiting) copyWords(h Heap, to api.Value) api.Fault {
words:
	for i := linkWord; i < w.block.Size; i++ {
		switch i {
		case pcWord:
			if fault := copyRaw(h, w.Frame, to, i); fault.Err != api.OK {
				return fault
			}
			continue words
		case sharedWord: // no continuation has the copy
			continue words
		}
		if fault := copyField(h, w.Frame, to, i); fault.Err != api.OK {
			return fault
		}
	}
	return api.Fault{}
}

// copyRaw gives a frame the raw word i of another one.
func copyRaw(h Heap, from, to api.Value, i int) api.Fault {
	n, fault := h.Raw(from, i)
	if fault.Err != api.OK {
		return fault
	}
	return h.SetRaw(to, i, n)
}

// copyField gives a frame the field i of another one.
func copyField(h Heap, from, to api.Value, i int) api.Fault {
	x, fault := h.Get(from, i)
	if fault.Err != api.OK {
		return fault
	}
	return h.Set(to, i, x)
}
