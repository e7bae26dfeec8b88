package vm

import (
	"reflect"
	"slices"
	"testing"

	"hearth/api"
	"hearth/check"
	"hearth/code"
	"hearth/machine"
	"hearth/table"
	"hearth/value"
)

type val = api.Value
type list = []api.Value

var fine = api.Fault{}

const (
	most  = 1<<63 - 1
	least = -1 << 63
)

// junk is a word that is right nowhere but where any int is.
const junk = 7

func ref(n int) val { return val{Kind: api.ValRef, N: n} }

// wordOf is the word of a value.
func wordOf(v val) int {
	w, _ := value.Word(v)
	return w
}

// op is an instruction, with its operand, if it has one.
func op(n int, a ...int) api.Ins { return api.Ins{Op: n, A: append(a, 0)[0]} }

// fn is a function.
func fn(params, locals, captures int, code ...api.Ins) api.Func {
	return api.Func{Params: params, Locals: locals, Captures: captures, Code: code}
}

// program is a program of these functions, with two globals and two texts.
func program(funcs ...api.Func) api.Program {
	return api.Program{Globals: 2, Texts: [][]byte{{}, []byte("a text of more than eight bytes")}, Funcs: funcs}
}

// only is a program without globals of one function with a local.
func only(code ...api.Ins) api.Program {
	return api.Program{Funcs: []api.Func{fn(0, 1, 0, code...)}}
}

// scripted is a script of a program.
func scripted(t testing.TB, p api.Program, pages, fuel int) api.Script {
	t.Helper()
	row, errno := code.Write(p)
	if errno != api.OK {
		t.Fatalf("the program of the test: %v", errno)
	}
	return api.Script{Program: row, Pages: pages, Fuel: fuel}
}

// five is the chapter's first program.
func five() api.Program {
	return api.Program{Funcs: []api.Func{fn(0, 0, 0, op(api.OpFix, 5), op(api.OpReturn))}}
}

// garbage makes pairs that nothing holds on to.
func garbage() api.Program {
	return api.Program{Funcs: []api.Func{fn(0, 0, 0, op(api.OpFix, 1), op(api.OpFix, 2), op(api.OpCons), op(api.OpPop), op(api.OpJump))}}
}

// longer makes a longer and longer list.
func longer() api.Program {
	return only(op(api.OpImm), op(api.OpSetLocal), op(api.OpFix, 1), op(api.OpLocal), op(api.OpCons), op(api.OpSetLocal), op(api.OpJump, 2))
}

// weakly makes a weak pair whose car nothing else holds on to.
func weakly() api.Program {
	return api.Program{Funcs: []api.Func{fn(0, 0, 0, op(api.OpFix, 1), op(api.OpFix, 2), op(api.OpCons), op(api.OpImm, 3), op(api.OpWeakCons), op(api.OpWeakCar), op(api.OpReturn))}}
}

// forced is a script with forced collections.
func forced(s api.Script, force ...int) api.Script {
	s.Force = force
	return s
}

// poked is a script with corruptions.
func poked(s api.Script, pokes ...api.Poke) api.Script {
	s.Pokes = pokes
	return s
}

// known is what is known of a program.
func known(t testing.TB, p api.Program) api.Checked {
	t.Helper()
	c, f, i, errno := check.Check(p)
	if errno != api.OK {
		t.Fatalf("the program of the test: %v at %d, %d", errno, f, i)
	}
	return c
}

// begun is what a run of a program begins with, made by the layers below.
func begun(t testing.TB, p api.Program, pages int) (*table.Heap, *machine.Machine[*table.Heap]) {
	t.Helper()
	h, _ := table.New(pages)
	m, fault := machine.New(h, p, known(t, p))
	if fault != fine {
		t.Fatalf("the run of the test does not begin: %v", fault)
	}
	return h, m
}

// ahead is a run at a boundary, with all events behind it that come ahead of that boundary's.
func ahead(t testing.TB, s api.Script, step int) *VM {
	t.Helper()
	v := New(s)
	for v.Steps() < step {
		if v.Step() == api.Ended {
			t.Fatalf("the run of the test never comes to %d: %+v", step, v.Outcome())
		}
	}
	return v
}

// events are so many of a run.
func events(v *VM, n int) []int {
	var out []int
	for range n {
		out = append(out, v.Step())
	}
	return out
}

// goes tells a fault, if the next events of a run are others.
func goes(t testing.TB, promise string, v *VM, want ...int) {
	t.Helper()
	if have := events(v, len(want)); !slices.Equal(have, want) {
		t.Errorf("%s: the events are %v, want %v", promise, have, want)
	}
}

// alike tells whether two outcomes are one; nil and an empty list are.
func alike(a, b api.Outcome) bool {
	if !slices.Equal(a.Log, b.Log) || !slices.Equal(a.Collections, b.Collections) {
		return false
	}
	a.Log, b.Log, a.Collections, b.Collections = nil, nil, nil, nil
	return reflect.DeepEqual(a, b)
}

// tells tells a fault, if a run does not stand so.
func tells(t testing.TB, promise string, have, want api.Outcome) {
	t.Helper()
	if !alike(have, want) {
		t.Errorf("%s: %+v, want %+v", promise, have, want)
	}
}

// sameDump tells whether two dumps are one.
func sameDump(a, b api.Dump) bool {
	return slices.Equal(a.Words, b.Words) && slices.Equal(a.Pages, b.Pages) && slices.Equal(a.Blocks, b.Blocks) && a.Heads == b.Heads && a.Serial == b.Serial
}

func done(text string, steps int, collections ...int) api.Outcome {
	return api.Outcome{End: api.Done, Value: text, Steps: steps, Collections: collections}
}

func ended(end, steps int, collections ...int) api.Outcome {
	return api.Outcome{End: end, Steps: steps, Collections: collections}
}

func corrupt(at, steps int, collections ...int) api.Outcome {
	return api.Outcome{End: api.Corrupt, At: at, Steps: steps, Collections: collections}
}

func failure(errno api.Errno, n, steps int, collections ...int) api.Outcome {
	return api.Outcome{End: api.Failed, Err: errno, N: n, Steps: steps, Collections: collections}
}

func refusal(errno api.Errno, at, n int) api.Outcome {
	return api.Outcome{End: api.Rejected, Err: errno, At: at, N: n}
}
