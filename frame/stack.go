package frame

import (
	"hearth/api"
	"hearth/value"
)

// Operands tells the n values on top of a frame's stack, the deepest one first.
func Operands(h Heap, v View, n int) ([]api.Value, api.Fault) {
	from, _, fault := reach(h, v, n)
	if fault.Err != api.OK {
		return nil, fault
	}
	list := make([]api.Value, n)
	for i := range list {
		if list[i], fault = h.Get(v.Frame, from+i); fault.Err != api.OK {
			return nil, fault
		}
	}
	return list, api.Fault{}
}

// Finish takes n values from a frame's stack, puts others there, and sets its pc.
func Finish(h Heap, v View, n int, put []api.Value, pc int) api.Fault {
	if pc < 0 {
		return fail(api.ErrArg)
	}
	if fault := exchange(h, v, n, put); fault.Err != api.OK {
		return fault
	}
	return h.SetRaw(v.Frame, pcWord, pc)
}

// Wait takes n values from a frame's stack; its pc stays.
func Wait(h Heap, v View, n int) api.Fault { return exchange(h, v, n, nil) }

// reach looks at a frame for the n values on top of its stack: in which word the deepest of them stands, and how many words the frame has.
func reach(h Heap, v View, n int) (from, size int, fault api.Fault) {
	if n < 0 || n > v.Depth {
		return 0, 0, fail(api.ErrArg)
	}
	b, fault := openKind(h, v.Frame, api.KindFrame)
	if fault.Err != api.OK {
		return 0, 0, fault
	}
	// The depth is n or more, so no difference leaves an int; a sum could.
	if v.Locals < 0 || v.Locals > slots(b)-v.Depth {
		return 0, 0, fail(api.ErrArg)
	}
	return slotWord + v.Locals + v.Depth - n, b.Size, api.Fault{}
}

// exchange puts values in the place of the n on top of a frame's stack. What is left of their slots becomes void, so that nothing is kept by what is no more on the stack.
func exchange(h Heap, v View, n int, put []api.Value) api.Fault {
	from, size, fault := reach(h, v, n)
	if fault.Err != api.OK {
		return fault
	}
	if len(put) > size-from {
		return fail(api.ErrArg)
	}
	if fault := checkAll(h, put); fault.Err != api.OK {
		return fault
	}
	if fault := set(h, v.Frame, from, put...); fault.Err != api.OK {
		return fault
	}
	for i := len(put); i < n; i++ {
		if fault := h.Set(v.Frame, from+i, value.Imm(api.ImmVoid)); fault.Err != api.OK {
			return fault
		}
	}
	return api.Fault{}
}
