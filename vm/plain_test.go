package vm

import (
	"slices"
	"testing"

	"hearth/api"
	"hearth/audit"
	"hearth/gc"
	"hearth/graph"
	"hearth/machine"
)

// DOC.md's section 'A run' as plainly as it stands, over the layers below, to hold the package against; and a run of the same program over a graph, which is told its collections.

// event is what is to be seen behind one.
type event struct {
	what    int
	outcome api.Outcome
	report  api.Report
	dump    api.Dump
}

// plainRun tells all events of a script that is not rejected, and whose run begins; the last one is Ended.
func plainRun(t testing.TB, s api.Script, p api.Program) []event {
	t.Helper()
	h, m := begun(t, p, s.Pages)
	var out []event
	var report api.Report
	tell := func(what int) { out = append(out, event{what, m.Outcome(), report, h.Dump()}) }
	collect := func() bool {
		r, fault := gc.Collect(h, m.Roots())
		if fault != fine {
			m.Stop(api.Corrupt, fault.At)
			return false
		}
		report = r
		m.Collected()
		tell(api.Collected)
		return true
	}
	for step := 0; m.Outcome().End == api.Running; step++ {
		if step == s.Fuel {
			m.Stop(api.OutOfFuel, 0)
			break
		}
		for _, one := range s.Pokes {
			if one.Step == step {
				h.Poke(one.At, one.Word)
			}
		}
		last := api.Executed
		if slices.Contains(s.Force, step) {
			if !collect() {
				break
			}
			last = api.Collected
		}
		sizes, fault := m.Needs()
		if fault == fine && !h.Fits(sizes...) && last != api.Collected {
			if !collect() {
				break
			}
			last = api.Collected
			sizes, fault = m.Needs()
		}
		if fault == fine && !h.Fits(sizes...) {
			m.Stop(api.OutOfMemory, 0)
			break
		}
		m.Step()
		tell(api.Executed)
	}
	tell(api.Ended)
	return out
}

// twin is the run of a program over a graph, which is told what another one has done.
type twin struct {
	*machine.Machine[*graph.Heap]
	heap *graph.Heap
}

func twinOf(t testing.TB, p api.Program) twin {
	t.Helper()
	g := graph.New()
	m, fault := machine.New(g, p, known(t, p))
	if fault != fine {
		t.Fatalf("the twin does not begin: %v", fault)
	}
	return twin{m, g}
}

// follow does what the run has done, and holds the one against the other: W1, W2.
func (w twin) follow(t testing.TB, v *VM, what int) {
	t.Helper()
	switch what {
	case api.Collected:
		r, fault := w.heap.Collect(w.Roots())
		w.Collected()
		if fault != fine || v.Report() != r {
			t.Errorf("W2: the report is %+v, want %+v", v.Report(), r)
		}
	case api.Executed:
		w.Step()
	case api.Ended:
		w.Stop(v.Outcome().End, 0)
	}
	tells(t, "W1", v.Outcome(), w.Outcome())
}

// stands tells a fault, if the graphs are not one, or the places are none of a map that carries the one onto the other, or the audit finds something: W1, W6.
func (w twin) stands(t testing.TB, v *VM) {
	t.Helper()
	want, _ := w.heap.Graph(w.Roots())
	have, fault := v.Graph()
	if fault != fine || !graph.Equal(have, want) {
		t.Errorf("W1: step %d: the graph is another one: %v", v.Steps(), fault)
	}
	placed(t, v, have)
	if found := audit.Check(v.Dump()); len(found) > 0 {
		t.Errorf("W6: step %d: the audit finds %v", v.Steps(), found)
	}
}

// placed tells a fault, if the places are not those of the nodes.
func placed(t testing.TB, v *VM, g api.Graph) {
	t.Helper()
	places := v.Places()
	if len(places) != len(g.Nodes) {
		t.Fatalf("P2303: %d places of %d nodes", len(places), len(g.Nodes))
	}
	blocks := map[int]api.Block{}
	for _, b := range v.Dump().Blocks {
		blocks[b.At] = b
	}
	for i, x := range places {
		b, ok := blocks[x.At]
		if x.Serial != g.Nodes[i].Id || !ok || b.Serial != x.Serial || b.Kind != g.Nodes[i].Kind {
			t.Fatalf("P2303: the place %v of the node %d: %v", x, g.Nodes[i].Id, b)
		}
		delete(blocks, x.At) // no two serials have one place
	}
}

// fitsPlainly tells whether objects of these sizes have room, by a dump alone: W4.
func fitsPlainly(d api.Dump, sizes []int) bool {
	words := []int{2, 4, 6, 8, 12, 16, 20, 32}
	free := make([]bool, len(d.Pages))
	left := map[int]int{} // the free blocks by the words of their class
	for i, p := range d.Pages {
		free[i] = p.Kind == api.PageFree
		if p.Kind == api.PageClass {
			left[words[p.Class]] += 64 / words[p.Class]
		}
	}
	for _, b := range d.Blocks {
		if b.Size <= 32 {
			left[blockOf(b.Size, words)]--
		}
	}
	for _, size := range sizes {
		if size <= 32 {
			c := blockOf(size, words)
			if left[c] > 0 {
				left[c]--
				continue
			}
			left[c] = 64/c - 1
			size = 1
		}
		if !takeRow(free, (size+63)/64) {
			return false
		}
	}
	return true
}

// blockOf is the least of the words that holds a size.
func blockOf(size int, words []int) int {
	return words[slices.IndexFunc(words, func(w int) bool { return w >= size })]
}

// takeRow takes the lowest row of n that are free; false: there is none.
func takeRow(free []bool, n int) bool {
	for i := 0; i+n <= len(free); i++ {
		if !slices.Contains(free[i:i+n], false) {
			clear(free[i : i+n])
			return true
		}
	}
	return false
}

// follows tells a fault, if a run's events are others than these. It tells the run behind them.
func follows(t testing.TB, s api.Script, want []event) *VM {
	t.Helper()
	v := New(s)
	tells(t, "P2301", v.Outcome(), api.Outcome{})
	for i, x := range want {
		what := v.Step()
		if what != x.what || v.Report() != x.report || !alike(v.Outcome(), x.outcome) || !sameDump(v.Dump(), x.dump) {
			t.Fatalf("P2302: event %d is %d: %+v, %+v; want %d: %+v, %+v (the dumps are one: %v)",
				i, what, v.Outcome(), v.Report(), x.what, x.outcome, x.report, sameDump(v.Dump(), x.dump))
		}
	}
	end := want[len(want)-1]
	for range 3 {
		if v.Step() != api.Ended || !alike(v.Outcome(), end.outcome) || !sameDump(v.Dump(), end.dump) || v.Report() != end.report {
			t.Fatalf("P2302: an event behind the end: %+v", v.Outcome())
		}
	}
	tells(t, "P2304", Run(s), end.outcome)
	return v
}
