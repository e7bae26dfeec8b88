package machine

import (
	"slices"
	"strconv"
	"sync"
	"testing"

	"hearth/api"
	"hearth/graph"
	"hearth/prim"
	"hearth/table"
)

// quiet tells a fault, if a machine that New has not made does anything.
func quiet[H prim.Heap](t *testing.T, m *Machine[H]) {
	t.Helper()
	for range 2 {
		sizes, fault := m.Needs()
		if m.Step() || len(sizes) > 0 || fault != fine || len(m.Roots()) > 0 || m.Running() || m.Steps() != 0 {
			t.Errorf("rule 1: a machine that there is not: %v, %v, %v", sizes, fault, m.Roots())
		}
		tells(t, "rule 1", m.Outcome(), api.Outcome{})
		tells(t, "rule 1", m.Since(1, 1), api.Outcome{})
		m.Collected()
		m.Stop(api.Corrupt, 7)
		m.Stop(api.OutOfFuel, 0)
	}
}

// What New refuses is nil, and what nobody made has no program: no call panics there, and none does anything.
func TestNoCallPanicsWithoutARun(t *testing.T) {
	var none *Machine[*graph.Heap]
	quiet(t, none)
	quiet(t, &Machine[*graph.Heap]{})
	quiet(t, (*Machine[prim.Heap])(nil))
	quiet(t, &Machine[prim.Heap]{})
	quiet(t, &Machine[*table.Heap]{})
	refused, _ := New(graph.New(), api.Program{}, api.Checked{})
	quiet(t, refused)
}

// A heap that is none has no room, or no objects: New tells that.
func TestNoCallPanicsWithoutAHeap(t *testing.T) {
	p := twoFunctions()
	c := known(t, p)
	refusedArena, _ := table.New(0)
	for i, h := range []prim.Heap{nil, refusedArena, &table.Heap{}, &spy{at: -1}, (*spy)(nil)} {
		if m, fault := New(h, p, c); m != nil || fault.Err == api.OK {
			t.Errorf("rule 1: heap %d: %v, %v", i, m, fault)
		}
		if m, fault := New(h, p, api.Checked{}); m != nil || fault != (api.Fault{Err: api.ErrArg}) {
			t.Errorf("P2202: heap %d: %v, %v", i, m, fault)
		}
	}
	if m, fault := New(refusedArena, p, c); m != nil || fault.Err == api.OK {
		t.Errorf("rule 1: %v, %v", m, fault)
	}
}

// broken is a heap whose calls panic from one on.
type broken struct {
	*spy
	after int
}

func (b *broken) check() {
	if len(b.calls) > b.after {
		panic("a heap that is none")
	}
}

func (b *broken) Open(v val) (api.Block, api.Fault) {
	b.check()
	return b.spy.Open(v)
}

func (b *broken) Get(v val, i int) (val, api.Fault) {
	b.check()
	return b.spy.Get(v, i)
}

func (b *broken) Set(v val, i int, x val) api.Fault {
	b.check()
	return b.spy.Set(v, i, x)
}

func (b *broken) Make(kind, n, tag int) (val, api.Fault) {
	b.check()
	return b.spy.Make(kind, n, tag)
}

func (b *broken) SetRaw(v val, i, x int) api.Fault {
	b.check()
	return b.spy.SetRaw(v, i, x)
}

// A heap that panics ends the run; the call answers.
func TestNoCallPanicsWithABrokenHeap(t *testing.T) {
	p := twoFunctions()
	for after := range 60 {
		b := &broken{watch(graph.New()), after}
		m, fault := New(b, p, known(t, p))
		if m == nil {
			if fault.Err == api.OK {
				t.Errorf("rule 1: New answers nothing")
			}
			continue
		}
		for range 30 {
			m.Needs()
			m.Step()
		}
		if o := m.Outcome(); o.End != api.Corrupt || o.At != 0 || o.Steps < 1 || m.Step() {
			t.Errorf("rule 1: behind %d calls: %+v", after, o)
		}
	}
}

// What is answered is nobody else's.
func TestMemory(t *testing.T) {
	each(t, func(t *testing.T, make func() prim.Heap) {
		m := started(t, make(), plainly(op(api.OpFix, 1), op(api.OpOut), op(api.OpFix, 2), op(api.OpOut), op(api.OpCons), op(api.OpHalt)), 4)
		m.Collected()
		want := m.Outcome()
		for range 2 {
			o := m.Outcome()
			o.Log[0], o.Collections[0] = "turned", 99
			_ = append(o.Log[:1], "turned")
			_ = append(o.Collections, 98)
			roots := m.Roots()
			kept := slices.Clone(roots)
			clear(roots)
			sizes, _ := m.Needs()
			clear(sizes)
			if !slices.Equal(m.Roots(), kept) {
				t.Errorf("rule 3: the roots are %v", m.Roots())
			}
			needed(t, "rule 3", m, 3)
		}
		tells(t, "rule 3", m.Outcome(), api.Outcome{Steps: 4, Log: []string{"1", "2"}, Collections: []int{4}})
		tells(t, "rule 3", want, api.Outcome{Steps: 4, Log: []string{"1", "2"}, Collections: []int{4}})
		sizes := Start(twoFunctions(), known(t, twoFunctions()))
		clear(sizes)
		if again := Start(twoFunctions(), known(t, twoFunctions())); again[1] != 1 {
			t.Errorf("rule 3: %v", again)
		}
	})
}

// An outcome that was told stays as it was, while the run goes on.
func TestOutcomeStays(t *testing.T) {
	m := started(t, graph.New(), plainly(op(api.OpFix, 1), op(api.OpOut), op(api.OpPop), op(api.OpJump)), 0)
	var told []api.Outcome
	for i := range 40 {
		told = append(told, m.Outcome())
		if i%3 == 0 {
			m.Collected()
		}
		m.Step()
	}
	for i, o := range told {
		if o.Steps != i || len(o.Log) != (i+2)/4 || len(o.Collections) != (i+2)/3 || slices.ContainsFunc(o.Log, func(s string) bool { return s != "1" }) {
			t.Errorf("rule 3: %d: %+v", i, o)
		}
	}
}

// Runs have nothing in common, also when they go on at the same time.
func TestSideBySide(t *testing.T) {
	p := again(8)
	c := known(t, p)
	outcomes := make([]api.Outcome, 8)
	var workers sync.WaitGroup
	for n := range outcomes {
		h := prim.Heap(graph.New())
		if n%2 > 0 {
			h = arena(t, 100)
		}
		workers.Go(func() {
			m, _ := New(h, p, c)
			for m.Step() {
			}
			outcomes[n] = m.Outcome()
		})
	}
	workers.Wait()
	for n, o := range outcomes {
		if o.End != api.Done {
			t.Errorf("rule 4: %+v", o)
		}
		tells(t, "rule 4: run "+strconv.Itoa(n), o, outcomes[0])
	}
}

// Two runs over one heap each have their own frames and globals.
func TestOneHeap(t *testing.T) {
	each(t, func(t *testing.T, make func() prim.Heap) {
		h := make()
		alone := played(t, make(), again(5), 1000)
		a, b := started(t, h, again(5), 0), started(t, h, again(5), 0)
		for a.Step() || b.Step() {
			b.Step()
		}
		tells(t, "rule 4", a.Outcome(), alone)
		tells(t, "rule 4", b.Outcome(), alone)
	})
}

// A program at the limits is run like any other one.
func TestLimits(t *testing.T) {
	var funcs []api.Func
	funcs = append(funcs, fn(0, 64, 0,
		slices.Repeat(codeOf(op(api.OpFix, 3)), 64), op(api.OpClosure, 63), op(api.OpDup), op(api.OpSetLocal, 63),
		slices.Repeat(codeOf(op(api.OpFix, 9)), 8), op(api.OpCall, 8), op(api.OpReturn)))
	for len(funcs) < 63 {
		funcs = append(funcs, fn(0, 0, 0, op(api.OpJump)))
	}
	funcs = append(funcs, fn(8, 64, 64, op(api.OpCaptured, 63), op(api.OpLocal, 7), op(api.OpAdd), op(api.OpSetGlobal, 63), op(api.OpGlobal, 63), op(api.OpReturn)))
	p := api.Program{Globals: 64, Funcs: funcs}
	each(t, func(t *testing.T, make func() prim.Heap) {
		tells(t, "limits", played(t, make(), p, 1000), done("12", 83))
	})
	if have := Start(p, known(t, p)); !slices.Equal(have, []int{65, 1, 133}) {
		t.Errorf("P2201: %v", have)
	}
}
