package model

import (
	"math/rand"
	"slices"
	"testing"

	"hearth/api"
	"hearth/graph"
	"hearth/vm"
)

// met is what the runs of a test come to, so that it can tell that it meets all that it is for.
type met struct {
	ends   [7]int
	ops    [76]int
	report api.Report
	short  int // collections for want of room
}

func (x *met) collected(r api.Report) {
	x.report.Freed += r.Freed
	x.report.Broken += r.Broken
	x.report.Cleared += r.Cleared
	x.report.Pruned += r.Pruned
}

// enough tells a fault, if too little was met. (A run has one halt or error at the most.)
func (x *met) enough(t *testing.T) {
	t.Helper()
	for n, often := range x.ops {
		if often < 10 && (n >= api.OpFix && n < api.OpHalt || n >= api.OpCons) {
			t.Errorf("the test makes the instruction %d only %d times", n, often)
		}
	}
	for _, end := range []int{api.Done, api.Failed, api.OutOfMemory, api.OutOfFuel} {
		if x.ends[end] < 8 {
			t.Errorf("the test's runs end %v", x.ends)
		}
	}
	if r := x.report; r.Freed < 5000 || r.Broken < 50 || r.Cleared < 50 || r.Pruned < 50 || x.short < 100 {
		t.Errorf("the test's collections are %+v, %d of them for want of room", r, x.short)
	}
}

// nextOp is the instruction that comes next.
func nextOp(m *Model, p api.Program) int {
	n, _ := m.heap.Node(m.Roots()[0])
	return p.Funcs[n.Raw[0]].Code[n.Raw[1]].Op
}

// follow has the model do what the vm has done, and tells a fault, if the two tell something else of it.
func follow(t *testing.T, v *vm.VM, m *Model, what int) {
	t.Helper()
	switch what {
	case api.Collected:
		collects(t, m, v.Report())
	case api.Executed:
		if !m.Step() {
			t.Errorf("P2404: the model has no step for the vm's")
		}
	case api.Ended:
		if end := v.Outcome().End; end == api.OutOfMemory || end == api.OutOfFuel {
			m.Stop(end)
		}
	}
	tells(t, "P2404", m.Outcome(), v.Outcome())
	g, fault := v.Graph()
	if fault != fine {
		t.Errorf("P2404: the vm has no graph: %v", fault)
	}
	has(t, "P2404", m.Graph(), g)
}

// collects tells a fault, if a collection reports something else than the vm's, or leaves something else than Live of the graph ahead of it.
func collects(t *testing.T, m *Model, want api.Report) {
	t.Helper()
	left, report, errno := graph.Collect(m.Graph())
	if errno != api.OK || report != want {
		t.Errorf("W2: the graph's report is %+v, the vm's %+v: %v", report, want, errno)
	}
	if r := m.Collect(); r != want {
		t.Errorf("P2404: the report is %+v, the vm's %+v", r, want)
	}
	has(t, "P2402", m.Graph(), left)
}

// The vm and the model stand alike behind each event, whatever the program, the room, the fuel and the forced collections.
func TestP2404(t *testing.T) {
	var x met
	for seed := range 320 {
		r := rand.New(rand.NewSource(int64(seed)))
		p := grown(t, seed, true)
		fuel := r.Intn(1200)
		s := api.Script{Program: bytesOf(t, p), Fuel: fuel, Pages: 4 + r.Intn(7), Force: someNumbers(r, 20, fuel)}
		v, m := vm.New(s), New(s.Program)
		if v.Outcome().End != api.Running {
			t.Fatalf("seed %d: the run of the test does not begin: %+v", seed, v.Outcome())
		}
		has(t, "P2404: at New", m.Graph(), first(v.Graph()))
		for what := api.Executed; what != api.Ended; {
			next := nextOp(m, p)
			what = v.Step()
			follow(t, v, m, what)
			if t.Failed() {
				t.Fatalf("seed %d, behind %d steps", seed, v.Outcome().Steps)
			}
			if what == api.Executed && v.Outcome().End != api.Failed {
				x.ops[next]++
			}
			if what == api.Collected {
				x.collected(v.Report())
				if !slices.Contains(s.Force, v.Outcome().Steps) {
					x.short++
				}
			}
		}
		x.ends[v.Outcome().End]++
		replays(t, s, v.Outcome())
	}
	x.enough(t)
}

func first(g api.Graph, _ api.Fault) api.Graph { return g }

// replays tells a fault, if Run, told the collections of the vm and where it ran out of memory, tells another outcome.
func replays(t *testing.T, s api.Script, want api.Outcome) {
	t.Helper()
	memory := -1
	if want.End == api.OutOfMemory {
		memory = want.Steps
	}
	tells(t, "P2403, P2404", Run(s.Program, s.Fuel, want.Collections, memory), want)
}

// withoutCollections is an outcome but for them.
func withoutCollections(o api.Outcome) api.Outcome {
	o.Collections = nil
	return o
}

// A program without an observing instruction tells the same with any collections, over a graph and over the arena; one that observes does not always.
func TestP2405(t *testing.T) {
	ends, seen, logged := map[int]int{}, 0, 0
	for seed := range 150 {
		r := rand.New(rand.NewSource(int64(seed)))
		fuel := 100 + r.Intn(1200)
		blind, keen := bytesOf(t, grown(t, seed, false)), bytesOf(t, grown(t, seed, true))
		want, other := Run(blind, fuel, nil, -1), Run(keen, fuel, nil, -1)
		every := make([]int, fuel+1)
		for i := range every {
			every[i] = i
		}
		for _, l := range [][]int{every, someNumbers(r, 5, fuel), someNumbers(r, 100, fuel)} {
			o := Run(blind, fuel, l, -1-r.Intn(9))
			tells(t, "P2405", withoutCollections(o), want)
			if !alike(withoutCollections(Run(keen, fuel, l, -1)), other) {
				seen++
			}
			inArena := vm.Run(api.Script{Program: blind, Fuel: fuel, Pages: 600, Force: l})
			tells(t, "W3", withoutCollections(inArena), want)
		}
		if t.Failed() {
			t.Fatalf("seed %d", seed)
		}
		ends[want.End]++
		logged += len(want.Log)
	}
	if ends[api.Done] < 8 || ends[api.Failed] < 8 || ends[api.OutOfFuel] < 20 || seen < 10 || logged < 200 {
		t.Errorf("the test's runs end %v, tell %d texts, and %d of those that observe see a collection", ends, logged, seen)
	}
}

// A run that ends at the vm's New is one that the model begins all the same: it is told nothing of pages.
func TestNoPages(t *testing.T) {
	row := bytesOf(t, five())
	if o := vm.Run(api.Script{Program: row, Fuel: 9, Pages: 1}); o.End != api.OutOfMemory {
		t.Fatalf("the run of the test begins: %+v", o)
	}
	tells(t, "P2401", Run(row, 9, nil, -1), done("5", 2))
}
