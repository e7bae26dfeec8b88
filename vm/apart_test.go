package vm

import (
	"reflect"
	"slices"
	"sync"
	"testing"

	"hearth/api"
)

// A run that nobody made has no call that panics, and tells nothing.
func TestNoCallPanicsWithoutARun(t *testing.T) {
	for _, v := range []*VM{nil, {}} {
		for range 2 {
			goes(t, "rule 1", v, api.Ended)
			tells(t, "rule 1", v.Outcome(), api.Outcome{})
			g, fault := v.Graph()
			if len(g.Nodes)+len(g.Roots)+len(v.Places()) > 0 || fault != fine || v.Report() != (api.Report{}) || !reflect.DeepEqual(v.Dump(), api.Dump{}) {
				t.Errorf("rule 1: %v, %v", g, fault)
			}
		}
	}
}

// busy is a script with something of everything.
func busy(t testing.TB, seed int) api.Script {
	s := forced(scripted(t, grownProgram(t, seed, true), 16, 400), 3, 90, 91, 200)
	s.Pokes = []api.Poke{{Step: 120, At: 1023, Word: 8}, {Step: 7, At: 1022, Word: 8}, {Step: 120, At: 1021, Word: 9}}
	return s
}

// What is handed in is neither changed, its spare room neither, nor kept.
func TestScriptIsLeftAlone(t *testing.T) {
	s := busy(t, 4)
	want := Run(s)
	spare := api.Script{
		Program: append(slices.Clone(s.Program), 1, 2, 3)[:len(s.Program)], Fuel: s.Fuel, Pages: s.Pages,
		Force: append(slices.Clone(s.Force), 70, 71)[:len(s.Force)],
		Pokes: append(slices.Clone(s.Pokes), api.Poke{At: 5, Word: 5})[:len(s.Pokes)],
	}
	v := New(spare)
	if !slices.Equal(spare.Program, s.Program) || !slices.Equal(spare.Force, s.Force) || !slices.Equal(spare.Pokes, s.Pokes) ||
		!slices.Equal(spare.Program[:len(s.Program)+3][len(s.Program):], []byte{1, 2, 3}) || spare.Force[:5][4] != 70 || spare.Pokes[:4][3] != (api.Poke{At: 5, Word: 5}) {
		t.Errorf("rule 3: the script has changed")
	}
	clear(spare.Program)
	for i := range spare.Force {
		spare.Force[i] = 10 + i
	}
	for i := range spare.Pokes {
		spare.Pokes[i] = api.Poke{Step: 20, At: i, Word: junk}
	}
	for v.Step() != api.Ended {
	}
	tells(t, "rule 3", v.Outcome(), want)
	if !slices.Equal(spare.Force, []int{10, 11, 12, 13}) || spare.Pokes[1] != (api.Poke{Step: 20, At: 1, Word: junk}) {
		t.Errorf("rule 3: the script has changed while the run went on")
	}
}

// What is answered is nobody else's.
func TestMemory(t *testing.T) {
	spoiled, want := New(busy(t, 4)), New(busy(t, 4))
	for {
		o, g, places, d, roots := spoiled.Outcome(), first(spoiled.Graph()), spoiled.Places(), spoiled.Dump(), spoiled.Roots()
		_, _ = append(o.Log, "more"), append(o.Collections, 99)
		clear(o.Log)
		clear(o.Collections)
		for _, n := range g.Nodes {
			clear(n.Raw)
			clear(n.Fields)
			clear(n.Entries)
		}
		clear(g.Nodes)
		clear(g.Roots)
		clear(places)
		clear(d.Words)
		clear(d.Pages)
		clear(d.Blocks)
		clear(roots)
		what := want.Step()
		goes(t, "rule 3", spoiled, what)
		tells(t, "rule 3", spoiled.Outcome(), want.Outcome())
		if !sameDump(spoiled.Dump(), want.Dump()) || !slices.Equal(spoiled.Places(), want.Places()) {
			t.Fatalf("rule 3: the run has changed with what it has answered")
		}
		if what == api.Ended {
			break
		}
	}
}

func first(g api.Graph, _ api.Fault) api.Graph { return g }

// Runs have nothing in common, in turn or at the same time.
func TestSideBySide(t *testing.T) {
	var want []api.Outcome
	var runs []*VM
	for seed := range 8 {
		want = append(want, Run(busy(t, seed)))
		runs = append(runs, New(busy(t, seed)))
	}
	for left := len(runs); left > 0; {
		left = len(runs)
		for _, v := range runs {
			if v.Step() == api.Ended {
				left--
			}
		}
	}
	for i, v := range runs {
		tells(t, "rule 4: in turn", v.Outcome(), want[i])
	}
	have := make([]api.Outcome, len(want))
	var workers sync.WaitGroup
	for i := range have {
		s := busy(t, i)
		workers.Go(func() { have[i] = Run(s) })
	}
	workers.Wait()
	for i, o := range have {
		tells(t, "rule 4: at the same time", o, want[i])
	}
}
