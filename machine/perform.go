package machine

import (
	"hearth/api"
	"hearth/fix"
	"hearth/frame"
	"hearth/show"
	"hearth/value"
)

// perform makes an instruction that was looked at, and for which there is room.
func (m *Machine[H]) perform(t turn) ending {
	switch t.in.Op {
	case api.OpCall, api.OpTail, api.OpCallCC, api.OpReturn:
		return m.pass(t)
	case api.OpHalt:
		return m.done(t.args[0])
	}
	put, e := m.puts(t)
	if e.end != api.Running {
		return e
	}
	return wrong(frame.Finish(m.heap, t.View, len(t.args), put, t.next()))
}

// next is where the run goes on behind an instruction that stays in its frame.
func (t *turn) next() int {
	switch t.in.Op {
	case api.OpBranch:
		if t.args[0] != value.Imm(api.ImmFalse) {
			break
		}
		fallthrough
	case api.OpJump:
		return t.in.A
	}
	return t.Pc + 1
}

// puts does what an instruction does beside the stack, and tells what it puts there.
func (m *Machine[H]) puts(t turn) ([]api.Value, ending) {
	switch t.in.Op {
	case api.OpPop, api.OpJump, api.OpBranch:
		return nil, ending{}
	case api.OpDup:
		return []api.Value{t.args[0], t.args[0]}, ending{}
	case api.OpSwap:
		return []api.Value{t.args[1], t.args[0]}, ending{}
	case api.OpSetLocal:
		return nil, wrong(m.heap.Set(t.Frame, slotWord+t.in.A, t.args[0]))
	case api.OpSetGlobal:
		return nil, wrong(m.heap.Set(m.globals, firstWord+t.in.A, t.args[0]))
	}
	v, e := m.result(t)
	return []api.Value{v}, e
}

// result is the one value that an instruction puts.
func (m *Machine[H]) result(t turn) (v api.Value, e ending) {
	var fault api.Fault
	switch t.in.Op {
	case api.OpFix:
		v = value.Fix(t.in.A)
	case api.OpChar:
		v = value.Char(t.in.A)
	case api.OpImm:
		v = value.Imm(t.in.A)
	case api.OpText:
		v, fault = m.heap.MakeText(m.program.Texts[t.in.A])
	case api.OpFlo:
		v, fault = m.float(t.in.A)
	case api.OpLocal:
		v, fault = m.heap.Get(t.Frame, slotWord+t.in.A)
	case api.OpCaptured:
		v, fault = m.heap.Get(t.read, firstWord+t.in.A)
	case api.OpGlobal:
		v = t.read
	case api.OpClosure:
		v, fault = m.closure(t)
	case api.OpOut:
		v, fault = value.Imm(api.ImmVoid), m.out(t.args[0])
	default:
		v, fail := m.prims.Do(m.heap, t.in.Op, t.args)
		return v, failed(fail)
	}
	return v, wrong(fault)
}

// float makes a float of some bits.
func (m *Machine[H]) float(bits int) (api.Value, api.Fault) {
	v, fault := m.heap.Make(api.KindFlo, 0, 0)
	if fault.Err != api.OK {
		return api.Value{}, fault
	}
	return v, m.heap.SetRaw(v, bitsWord, fix.Bits(fix.Float(bits)))
}

// closure makes a closure that has the operands.
func (m *Machine[H]) closure(t turn) (api.Value, api.Fault) {
	v, fault := m.heap.Make(api.KindClosure, len(t.args), t.in.A)
	if fault.Err != api.OK {
		return api.Value{}, fault
	}
	return v, m.fill(v, t.args)
}

// out adds the text of a value to the log.
func (m *Machine[H]) out(v api.Value) api.Fault {
	text, fault := show.Value(m.heap, v)
	if fault.Err == api.OK {
		m.outcome.Log = append(m.outcome.Log, text)
	}
	return fault
}

// done ends the run with a value.
func (m *Machine[H]) done(v api.Value) ending {
	text, fault := show.Value(m.heap, v)
	if fault.Err != api.OK {
		return wrong(fault)
	}
	return ending{end: api.Done, value: text}
}

// pass makes an instruction behind which the run goes on in another frame: a new one of the function that is called, or one that waits, and into which something is returned.
func (m *Machine[H]) pass(t turn) ending {
	var next api.Value
	var fault api.Fault
	args := t.args // of a call the first of them is what is called
	switch t.in.Op {
	case api.OpReturn:
		goto back
	case api.OpCallCC:
		args, fault = m.capture(t)
	default:
		args = args[1:]
	}
	if fault.Err != api.OK {
		return wrong(fault)
	}
	if t.back {
		goto back
	}
	next, fault = frame.New(m.heap, m.program, m.known, t.args[0], t.to, args)
	if fault.Err == api.OK && t.in.Op == api.OpCall {
		fault = frame.Wait(m.heap, t.View, len(t.args))
	}
	return m.enter(next, fault)
back:
	if t.to == null() {
		return m.done(args[0])
	}
	next, fault = frame.Return(m.heap, m.program, m.known, t.to, args[0])
	return m.enter(next, fault)
}

// enter goes on in another frame, unless there was a fault.
func (m *Machine[H]) enter(next api.Value, fault api.Fault) ending {
	if fault.Err == api.OK {
		m.frame = next
	}
	return wrong(fault)
}

// capture makes the continuation of a callcc, and has the current frame wait, which is shared from now on. The continuation is the one argument of the call.
func (m *Machine[H]) capture(t turn) ([]api.Value, api.Fault) {
	k, fault := m.heap.Make(api.KindCont, 0, 0)
	if fault.Err != api.OK {
		return nil, fault
	}
	if fault = m.heap.Set(k, targetWord, t.Frame); fault.Err != api.OK {
		return nil, fault
	}
	if fault = frame.Share(m.heap, t.Frame); fault.Err != api.OK {
		return nil, fault
	}
	return []api.Value{k}, frame.Wait(m.heap, t.View, len(t.args))
}
