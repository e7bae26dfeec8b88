package machine

import (
	"hearth/api"
	"hearth/frame"
	"hearth/value"
)

// Where the parts of objects stand among their words.
const (
	firstWord = 1 // of a vector, a closure

	linkWord    = 1 // of a frame
	closureWord = 2
	slotWord    = 5

	targetWord = 1 // of a continuation
	bitsWord   = 1 // of a float
)

// The runtime errors are the numbers from the first to the last one of these.
const (
	firstFailure = api.ErrType
	lastFailure  = api.ErrLog
)

// ending is what has come of an instruction: how it ends the run, if it does.
type ending struct {
	end   int      // api.Running: it does not
	value string   // of Done
	why   api.Fail // of Failed and Corrupt
}

// wrong is what a fault makes of an instruction; nothing, if there is none.
func wrong(fault api.Fault) ending {
	if fault.Err == api.OK {
		return ending{}
	}
	return ending{end: api.Corrupt, why: api.Fail{Err: fault.Err, At: fault.At}}
}

// fails is what a runtime error makes of an instruction.
func fails(errno api.Errno, n int) ending {
	return ending{end: api.Failed, why: api.Fail{Err: errno, N: n}}
}

// failed is what the instructions 30 to 74 tell: a runtime error, a fault, or nothing.
func failed(fail api.Fail) ending {
	if firstFailure <= fail.Err && fail.Err <= lastFailure {
		return fails(fail.Err, fail.N)
	}
	return wrong(api.Fault{Err: fail.Err, At: fail.At})
}

// turn is the next instruction, as it was looked at.
type turn struct {
	frame.View
	in    api.Ins
	args  []api.Value // its operands
	needs []int       // the sizes of the objects that it makes
	read  api.Value   // what was read on the way: a global; the closure of what is captured
	to    api.Value   // the frame to which an answer goes: that of a return, or of the call that is made
	back  bool        // something is returned into that frame
}

// look looks at the next instruction.
func (m *Machine[H]) look() (turn, ending) {
	view, fault := frame.Open(m.heap, m.program, m.known, m.frame)
	if fault.Err != api.OK {
		return turn{}, wrong(fault)
	}
	t := turn{View: view, in: m.program.Funcs[view.Func].Code[view.Pc]}
	t.args, fault = frame.Operands(m.heap, view, m.takes(t.in))
	if fault.Err != api.OK {
		return turn{}, wrong(fault)
	}
	e := m.lookOn(&t)
	return t, e
}

// takes is how many operands an instruction takes.
func (m *Machine[H]) takes(in api.Ins) int {
	switch in.Op {
	case api.OpClosure:
		return m.program.Funcs[in.A].Captures
	case api.OpCall, api.OpTail:
		return in.A + 1
	case api.OpSwap:
		return 2
	case api.OpSetLocal, api.OpSetGlobal, api.OpPop, api.OpDup, api.OpBranch, api.OpReturn, api.OpCallCC, api.OpHalt, api.OpError, api.OpOut:
		return 1
	}
	return max(0, m.prims.Takes(in.Op))
}

// lookOn looks at what an instruction asks for beside its operands.
func (m *Machine[H]) lookOn(t *turn) ending {
	switch t.in.Op {
	case api.OpText:
		t.needs = []int{size(api.KindText, len(m.program.Texts[t.in.A]))}
	case api.OpFlo:
		t.needs = []int{size(api.KindFlo, 0)}
	case api.OpClosure:
		t.needs = []int{size(api.KindClosure, len(t.args))}
	case api.OpCaptured:
		return m.lookClosure(t)
	case api.OpGlobal:
		return m.lookGlobal(t)
	case api.OpOut:
		if len(m.outcome.Log) >= api.MaxLog {
			return fails(api.ErrLog, 0)
		}
	case api.OpError:
		if t.args[0].Kind != api.ValFix {
			return fails(api.ErrType, 1)
		}
		return fails(api.ErrUser, t.args[0].N)
	case api.OpReturn:
		return m.lookReturn(t)
	case api.OpCallCC:
		t.needs = []int{size(api.KindCont, 0)}
		fallthrough // what it calls it calls as the others do
	case api.OpCall, api.OpTail:
		return m.lookCall(t)
	default:
		return m.lookPrim(t)
	}
	return ending{}
}

// lookPrim looks at an instruction of 30 to 74; all others that come here ask for nothing.
func (m *Machine[H]) lookPrim(t *turn) ending {
	if m.prims.Takes(t.in.Op) < 0 {
		return ending{}
	}
	sizes, fail := m.prims.Needs(m.heap, t.in.Op, t.args)
	t.needs = sizes
	return failed(fail)
}

// lookClosure reads the closure of the current frame.
func (m *Machine[H]) lookClosure(t *turn) ending {
	closure, fault := m.heap.Get(t.Frame, closureWord)
	if fault.Err != api.OK {
		return wrong(fault)
	}
	if closure == null() {
		return fails(api.ErrCall, 0)
	}
	t.read = closure
	return ending{}
}

// lookGlobal reads a global.
func (m *Machine[H]) lookGlobal(t *turn) ending {
	x, fault := m.heap.Get(m.globals, firstWord+t.in.A)
	if fault.Err != api.OK {
		return wrong(fault)
	}
	if x == value.Imm(api.ImmUnbound) {
		return fails(api.ErrUnbound, t.in.A)
	}
	t.read = x
	return ending{}
}

// lookReturn looks at where a return leads.
func (m *Machine[H]) lookReturn(t *turn) ending {
	if e := m.lookLink(t); e.end != api.Running {
		return e
	}
	return m.lookBack(t)
}

// lookLink reads the link of the current frame: an answer goes there.
func (m *Machine[H]) lookLink(t *turn) ending {
	link, fault := m.heap.Get(t.Frame, linkWord)
	t.to = link
	return wrong(fault)
}

// lookCall looks at what is called.
func (m *Machine[H]) lookCall(t *turn) ending {
	callee := t.args[0]
	if callee.Kind != api.ValRef {
		return fails(api.ErrCall, 0)
	}
	b, fault := m.heap.Open(callee)
	if fault.Err != api.OK {
		return wrong(fault)
	}
	switch b.Kind {
	case api.KindClosure:
		return m.lookFunction(t, b.Tag)
	case api.KindCont:
		return m.lookTarget(t)
	}
	return fails(api.ErrCall, 0)
}

// arguments is how many of them there are in a call. (That of callcc is not on the stack.)
func (t *turn) arguments() int {
	if t.in.Op == api.OpCallCC {
		return 1
	}
	return t.in.A
}

// lookFunction looks at a call of a closure of the function f. (One of no function of the program has no number of parameters that would be right.)
func (m *Machine[H]) lookFunction(t *turn, f int) ending {
	n := t.arguments()
	if f < 0 || f >= len(m.program.Funcs) || m.program.Funcs[f].Params != n {
		return fails(api.ErrArity, n)
	}
	t.needs = append(t.needs, size(api.KindFrame, m.known.Slots[f]))
	if t.in.Op == api.OpTail {
		return m.lookLink(t)
	}
	t.to = t.Frame
	return ending{}
}

// lookTarget looks at a call of a continuation.
func (m *Machine[H]) lookTarget(t *turn) ending {
	if n := t.arguments(); n != 1 {
		return fails(api.ErrArity, n)
	}
	target, fault := m.heap.Get(t.args[0], targetWord)
	if fault.Err != api.OK {
		return wrong(fault)
	}
	t.to = target
	return m.lookBack(t)
}

// lookBack looks at the frame into which something is returned.
func (m *Machine[H]) lookBack(t *turn) ending {
	t.back = true
	if t.to == null() {
		return ending{}
	}
	sizes, fault := frame.Needs(m.heap, m.program, m.known, t.to)
	switch {
	case fault.Err == api.ErrCall:
		return fails(api.ErrCall, 0)
	case fault.Err != api.OK:
		return wrong(fault)
	case t.in.Op == api.OpCallCC && t.to == t.Frame: // it is shared by the time of the return
		sizes = []int{size(api.KindFrame, m.known.Slots[t.Func])}
	}
	t.needs = append(t.needs, sizes...)
	return ending{}
}
