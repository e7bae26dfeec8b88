package model

import (
	"reflect"
	"slices"
	"strconv"
	"testing"

	"hearth/api"
)

// What is rejected, and the place that is told.
func TestP2401Rejected(t *testing.T) {
	good := bytesOf(t, five())
	halt := func(code ...api.Ins) api.Func { return fn(0, 0, 0, append(code, op(api.OpHalt))...) }
	under := bytesOf(t, program(halt(op(api.OpFix)), halt(op(api.OpFix)), halt(op(api.OpFix), op(api.OpDup), op(api.OpPop), op(api.OpPop), op(api.OpPop))))
	for i, x := range []struct {
		row  []byte
		want api.Outcome
	}{
		{nil, refusal(api.ErrEnd, 0, 0)},
		{[]byte{}, refusal(api.ErrEnd, 0, 0)},
		{good[:7], refusal(api.ErrEnd, 7, 0)},
		{good[:len(good)-1], refusal(api.ErrEnd, len(good)-1, 0)},
		{append(slices.Clone(good), 0), refusal(api.ErrBytes, len(good), 0)},
		{append(slices.Clone(under), 0), refusal(api.ErrBytes, len(under), 0)}, // ahead of what check finds
		{make([]byte, 9), refusal(api.ErrBytes, 0, 0)},
		{make([]byte, api.MaxProgram), refusal(api.ErrBytes, 0, 0)},
		{make([]byte, api.MaxProgram+1), refusal(api.ErrLong, 0, 0)},
		{under, refusal(api.ErrUnder, 2, 4)},
		{bytesOf(t, program(fn(1, 1, 0, op(api.OpHalt)))), refusal(api.ErrMain, 0, 0)},
		{bytesOf(t, program(halt(op(api.OpFix)), fn(2, 1, 0, op(api.OpHalt)))), refusal(api.ErrFunc, 1, 0)},
		{bytesOf(t, program(halt(op(api.OpFix), op(api.OpGlobal, 2)))), refusal(api.ErrOperand, 0, 1)},
		{bytesOf(t, only(op(api.OpFix), op(api.OpJump, 2))), refusal(api.ErrJump, 0, 1)},
		{bytesOf(t, only(op(api.OpFix), op(api.OpPop))), refusal(api.ErrRuns, 0, 1)},
		{bytesOf(t, only(op(api.OpFix), op(api.OpJump))), refusal(api.ErrMeet, 0, 1)},
	} {
		what := "P2401: program " + strconv.Itoa(i)
		m := New(x.row)
		if m == nil {
			t.Fatalf("%s: no run", what)
		}
		tells(t, what, m.Outcome(), x.want)
		stays(t, what, m)
		tells(t, what, Run(x.row, 9, []int{0}, 0), x.want)
	}
}

// stays tells a fault, if a run that has ended does not stay as it is.
func stays(t *testing.T, promise string, m *Model) {
	t.Helper()
	o, g := m.Outcome(), m.Graph()
	for _, end := range []int{api.OutOfMemory, api.OutOfFuel, api.Corrupt, api.Running} {
		if m.Step() || m.Collect() != (api.Report{}) {
			t.Errorf("%s: a run that has ended goes on", promise)
		}
		m.Stop(end)
		tells(t, promise, m.Outcome(), o)
		has(t, promise, m.Graph(), g)
	}
	if o.End == api.Rejected && !reflect.DeepEqual(g, api.Graph{}) {
		t.Errorf("%s: the graph of a run that was rejected is %v", promise, g)
	}
}

// What a run begins with is machine.New's, over a heap that was empty.
func TestP2401Begun(t *testing.T) {
	for _, p := range []api.Program{five(), looping(), forgetful(), grown(t, 3, true), {Globals: api.MaxGlobals, Funcs: []api.Func{fn(0, api.MaxLocals, 0, op(api.OpJump))}}} {
		m := modelOf(t, p)
		g := m.Graph()
		tells(t, "P2401", m.Outcome(), api.Outcome{})
		has(t, "P2401", g, belowOf(t, p).graph(t))
		if len(g.Nodes) != 3 || g.Nodes[0].Kind != api.KindVector || g.Nodes[1].Kind != api.KindClosure || g.Nodes[2].Kind != api.KindFrame ||
			!slices.Equal(g.Roots, []val{ref(3), ref(1)}) || len(g.Nodes[0].Fields) != p.Globals || len(g.Nodes[2].Fields) < 2+p.Funcs[0].Locals {
			t.Errorf("P2401: a run begins with %v", g)
		}
	}
}

// A Step is the machine's; one behind the end is none.
func TestP2402Step(t *testing.T) {
	for _, p := range []api.Program{five(), weakly(), longer(), forgetful(), only(op(api.OpFix, 3), op(api.OpError)), only(op(api.OpFix, 3), op(api.OpUnbox), op(api.OpHalt)), grown(t, 1, true), grown(t, 2, true)} {
		m, b := modelOf(t, p), belowOf(t, p)
		for range 300 {
			have, want := m.Step(), b.run.Step()
			tells(t, "P2402", m.Outcome(), b.run.Outcome())
			has(t, "P2402", m.Graph(), b.graph(t))
			if have != want {
				t.Errorf("P2402: Step tells %v at %+v", have, m.Outcome())
			}
			if t.Failed() || !want {
				break
			}
		}
	}
	m := ahead(t, five(), 2)
	tells(t, "P2402", m.Outcome(), done("5", 2))
	stays(t, "P2402: done", m)
	m = ahead(t, program(fn(0, 0, 0, op(api.OpGlobal, 1), op(api.OpReturn))), 1)
	tells(t, "P2402: a step that fails is one", m.Outcome(), failure(api.ErrUnbound, 1, 1))
	stays(t, "P2402: failed", m)
}

// A collection keeps what the current frame and the globals live by, and is noted; all else of the run stays.
func TestP2402Collect(t *testing.T) {
	m := ahead(t, garbage(), 4)
	if r := m.Collect(); r != (api.Report{Kept: 3, Freed: 1}) {
		t.Errorf("P2402: the report is %+v", r)
	}
	tells(t, "P2402", m.Outcome(), ended(api.Running, 4, 4))
	if r := m.Collect(); r != (api.Report{Kept: 3}) {
		t.Errorf("P2402: once more: the report is %+v", r)
	}
	tells(t, "P2402", m.Outcome(), ended(api.Running, 4, 4, 4))
	m = ahead(t, forgetful(), 22)
	if r := m.Collect(); r != (api.Report{Kept: 8, Freed: 4, Broken: 1, Cleared: 1, Pruned: 1}) {
		t.Errorf("P2402: the report is %+v", r)
	}
	if !m.Step() || m.Step() {
		t.Errorf("P2402: the run goes on otherwise: %+v", m.Outcome())
	}
	tells(t, "P2402", m.Outcome(), done("(#<table> #<ephemeron> . #<weak>)", 23, 22))
	m = modelOf(t, five())
	if r := m.Collect(); r != (api.Report{Kept: 3}) {
		t.Errorf("P2402: ahead of the first step: the report is %+v", r)
	}
	tells(t, "P2402", m.Outcome(), ended(api.Running, 0, 0))
}

// What only the globals hold on to stays, and so does what only the links and continuations of frames do.
func TestP2402Roots(t *testing.T) {
	p := program(
		fn(0, 1, 0, op(api.OpFix, 1), op(api.OpBox), op(api.OpSetGlobal, 1), op(api.OpFix, 2), op(api.OpBox), op(api.OpClosure, 1), op(api.OpCallCC), op(api.OpCons), op(api.OpGlobal, 1), op(api.OpCons), op(api.OpReturn)),
		fn(1, 2, 0, op(api.OpFix, 3), op(api.OpBox), op(api.OpPop), op(api.OpFix, 4), op(api.OpReturn)))
	m := ahead(t, p, 10) // in function 1, with a box that was dropped
	g := m.Graph()
	if r := m.Collect(); r != (api.Report{Kept: 8, Freed: 1}) { // the globals, two boxes, two closures, two frames, the continuation
		t.Errorf("P2402: the report is %+v of %v", r, g)
	}
	if left := m.Graph(); !slices.Equal(left.Roots, g.Roots) {
		t.Errorf("P2402: the roots are %v, were %v", left.Roots, g.Roots)
	}
	for m.Step() {
		m.Collect()
	}
	tells(t, "P2402", m.Outcome(), done("((#&2 . 4) . #&1)", 16, 10, 11, 12, 13, 14, 15))
}

// Of all ends two alone end a run, both without a place.
func TestP2402Stop(t *testing.T) {
	for _, end := range []int{api.Running, api.Done, api.Failed, api.Corrupt, api.Rejected, 7, -1, most, least} {
		m := ahead(t, looping(), 3)
		m.Stop(end)
		tells(t, "P2402: stopped with "+strconv.Itoa(end), m.Outcome(), ended(api.Running, 3))
		if !m.Step() {
			t.Errorf("P2402: a run stopped with %d does not go on", end)
		}
	}
	for _, end := range []int{api.OutOfMemory, api.OutOfFuel} {
		m := ahead(t, longer(), 9)
		m.Collect()
		g := m.Graph()
		m.Stop(end)
		tells(t, "P2402", m.Outcome(), ended(end, 9, 9))
		has(t, "P2402: the heap stays, with the run's roots", m.Graph(), g)
		stays(t, "P2402: stopped", m)
	}
}

// Outcome and Graph change nothing, however often they are asked.
func TestP2402Asked(t *testing.T) {
	asked, quiet := modelOf(t, grown(t, 1, true)), modelOf(t, grown(t, 1, true))
	for i := range 300 {
		for range 2 {
			asked.Outcome()
			asked.Graph()
		}
		if asked.Step() != quiet.Step() || i%20 == 0 && asked.Collect() != quiet.Collect() {
			t.Fatalf("P2402: who is asked goes on otherwise")
		}
	}
	tells(t, "P2402", asked.Outcome(), quiet.Outcome())
	has(t, "P2402", asked.Graph(), quiet.Graph())
}

// A log of the machine's, told by the model: text by text, up to the greatest one.
func TestP2402Log(t *testing.T) {
	p := only(op(api.OpImm, 2), op(api.OpOut), op(api.OpPop), op(api.OpJump))
	m := ahead(t, p, 9)
	o := ended(api.Running, 9)
	o.Log = []string{"#t", "#t"}
	tells(t, "P2402", m.Outcome(), o)
	o = Run(bytesOf(t, p), api.MaxFuel, []int{9}, -1)
	if o.End != api.Failed || o.Err != api.ErrLog || len(o.Log) != api.MaxLog || o.Steps != 4*api.MaxLog+2 || !slices.Equal(o.Collections, []int{9}) {
		t.Errorf("P2402: %d, %d, %d texts, %d steps", o.End, o.Err, len(o.Log), o.Steps)
	}
}
