package model

import (
	"reflect"
	"slices"
	"testing"

	"hearth/api"
	"hearth/check"
	"hearth/code"
	"hearth/graph"
	"hearth/machine"
)

type val = api.Value

var fine = api.Fault{}

const (
	most  = 1<<63 - 1
	least = -1 << 63
)

func ref(n int) val { return val{Kind: api.ValRef, N: n} }

// op is an instruction, with its operand, if it has one.
func op(n int, a ...int) api.Ins { return api.Ins{Op: n, A: append(a, 0)[0]} }

// fn is a function.
func fn(params, locals, captures int, code ...api.Ins) api.Func {
	return api.Func{Params: params, Locals: locals, Captures: captures, Code: code}
}

// program is a program of these functions, with two globals and a text.
func program(funcs ...api.Func) api.Program {
	return api.Program{Globals: 2, Texts: [][]byte{[]byte("a text")}, Funcs: funcs}
}

// only is a program without globals of one function with a local.
func only(code ...api.Ins) api.Program {
	return api.Program{Funcs: []api.Func{fn(0, 1, 0, code...)}}
}

// five is the chapter's first program.
func five() api.Program { return only(op(api.OpFix, 5), op(api.OpReturn)) }

// looping goes on and on, and makes nothing.
func looping() api.Program { return only(op(api.OpJump)) }

// garbage makes pairs that nothing holds on to.
func garbage() api.Program {
	return only(op(api.OpFix, 1), op(api.OpFix, 2), op(api.OpCons), op(api.OpPop), op(api.OpJump))
}

// longer makes a longer and longer list.
func longer() api.Program {
	return only(op(api.OpImm), op(api.OpSetLocal), op(api.OpFix, 1), op(api.OpLocal), op(api.OpCons), op(api.OpSetLocal), op(api.OpJump, 2))
}

// weakly makes a weak pair whose car nothing else holds on to.
func weakly() api.Program {
	return only(op(api.OpFix, 1), op(api.OpFix, 2), op(api.OpCons), op(api.OpImm, 3), op(api.OpWeakCons), op(api.OpWeakCar), op(api.OpReturn))
}

// forgetful makes a weak pair, an ephemeron and a table, the keys of which nothing else holds on to; all three are there from the boundary 22 on.
func forgetful() api.Program {
	return only(
		op(api.OpFix), op(api.OpBox), op(api.OpImm), op(api.OpWeakCons), op(api.OpSetLocal),
		op(api.OpFix), op(api.OpBox), op(api.OpFix), op(api.OpBox), op(api.OpEph), op(api.OpLocal), op(api.OpCons), op(api.OpSetLocal),
		op(api.OpTable), op(api.OpDup), op(api.OpFix), op(api.OpBox), op(api.OpFix), op(api.OpTablePut), op(api.OpPop), op(api.OpLocal), op(api.OpCons),
		op(api.OpReturn))
}

// bytesOf are the bytes of a program.
func bytesOf(t testing.TB, p api.Program) []byte {
	t.Helper()
	row, errno := code.Write(p)
	if errno != api.OK {
		t.Fatalf("the program of the test: %v", errno)
	}
	return row
}

// modelOf is a run of a program.
func modelOf(t testing.TB, p api.Program) *Model {
	t.Helper()
	return New(bytesOf(t, p))
}

// ahead is a run at a boundary.
func ahead(t testing.TB, p api.Program, step int) *Model {
	t.Helper()
	m := modelOf(t, p)
	for range step {
		if !m.Step() {
			t.Fatalf("the run of the test never comes to %d: %+v", step, m.Outcome())
		}
	}
	return m
}

// below is the run of a program as the layers below make it: a heap of nodes, and a machine over it.
type below struct {
	heap *graph.Heap
	run  *machine.Machine[*graph.Heap]
}

func belowOf(t testing.TB, p api.Program) below {
	t.Helper()
	known, f, i, errno := check.Check(p)
	if errno != api.OK {
		t.Fatalf("the program of the test: %v at %d, %d", errno, f, i)
	}
	h := graph.New()
	m, fault := machine.New(h, p, known)
	if fault != fine {
		t.Fatalf("the run of the test does not begin: %v", fault)
	}
	return below{h, m}
}

// graph is the heap with the run's roots.
func (b below) graph(t testing.TB) api.Graph {
	t.Helper()
	g, fault := b.heap.Graph(b.run.Roots())
	if fault != fine {
		t.Fatalf("the run of the test has no roots: %v", fault)
	}
	return g
}

// alike tells whether two outcomes are one; nil and an empty list are.
func alike(a, b api.Outcome) bool {
	if !slices.Equal(a.Log, b.Log) || !slices.Equal(a.Collections, b.Collections) {
		return false
	}
	a.Log, b.Log, a.Collections, b.Collections = nil, nil, nil, nil
	return reflect.DeepEqual(a, b)
}

// tells tells a fault, if a run does not stand so.
func tells(t testing.TB, promise string, have, want api.Outcome) {
	t.Helper()
	if !alike(have, want) {
		t.Errorf("%s: %+v, want %+v", promise, have, want)
	}
}

// has tells a fault, if a heap is not so.
func has(t testing.TB, promise string, have, want api.Graph) {
	t.Helper()
	if !graph.Equal(have, want) {
		t.Errorf("%s: the graph is %v, want %v", promise, have, want)
	}
}

func done(text string, steps int, collections ...int) api.Outcome {
	return api.Outcome{End: api.Done, Value: text, Steps: steps, Collections: collections}
}

func ended(end, steps int, collections ...int) api.Outcome {
	return api.Outcome{End: end, Steps: steps, Collections: collections}
}

func failure(errno api.Errno, n, steps int, collections ...int) api.Outcome {
	return api.Outcome{End: api.Failed, Err: errno, N: n, Steps: steps, Collections: collections}
}

func refusal(errno api.Errno, at, n int) api.Outcome {
	return api.Outcome{End: api.Rejected, Err: errno, At: at, N: n}
}
