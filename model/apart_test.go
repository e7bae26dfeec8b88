package model

import (
	"slices"
	"sync"
	"testing"

	"hearth/api"
)

// A run that nobody made has no call that panics, and tells nothing.
func TestNoCallPanicsWithoutARun(t *testing.T) {
	for _, m := range []*Model{nil, {}} {
		tells(t, "rule 1", m.Outcome(), api.Outcome{})
		stays(t, "rule 1", m)
	}
}

// busy is a run with something of everything, to be told what to do by tell, at so many boundaries.
func busy(m *Model, boundaries int, tell func()) api.Outcome {
	for s := range boundaries {
		if s%17 == 5 {
			m.Collect()
		}
		tell()
		m.Step()
	}
	m.Stop(api.OutOfFuel)
	return m.Outcome()
}

func nothing() {}

// What is handed in is neither changed, its spare room neither, nor kept.
func TestArgumentsAreLeftAlone(t *testing.T) {
	row := bytesOf(t, grown(t, 4, true))
	spare := append(slices.Clone(row), 1, 2, 3)[:len(row)]
	m, want := New(spare), busy(New(row), 300, nothing)
	if !slices.Equal(spare[:len(row)+3], append(slices.Clone(row), 1, 2, 3)) {
		t.Errorf("rule 3: the program has changed")
	}
	tells(t, "rule 3", busy(m, 300, func() { clear(spare) }), want)
	if slices.ContainsFunc(spare, func(b byte) bool { return b != 0 }) || spare[:len(row)+1][len(row)] != 1 {
		t.Errorf("rule 3: the program has changed while the run went on")
	}
	list := []int{7, 3, 3, 9, 70, 71}
	o := Run(row, 50, list[:4], -1)
	tells(t, "rule 3", o, plainRun(t, grown(t, 4, true), 50, []int{3, 3, 7, 9}, -1))
	if !slices.Equal(list, []int{7, 3, 3, 9, 70, 71}) {
		t.Errorf("rule 3: the collections have changed: %v", list)
	}
}

// What is answered is nobody else's.
func TestMemory(t *testing.T) {
	row := bytesOf(t, grown(t, 4, true))
	want := busy(New(row), 300, nothing)
	m := New(row)
	have := busy(m, 300, func() {
		o, g, roots := m.Outcome(), m.Graph(), m.Roots()
		_, _ = append(o.Log, "more"), append(o.Collections, 99)
		clear(o.Log)
		clear(o.Collections)
		for _, n := range g.Nodes {
			clear(n.Raw)
			clear(n.Fields)
			clear(n.Entries)
		}
		clear(g.Nodes)
		clear(g.Roots)
		clear(roots)
	})
	tells(t, "rule 3", have, want)
	other := New(row)
	busy(other, 300, nothing)
	has(t, "rule 3", m.Graph(), other.Graph())
	if len(want.Log) < 1 || len(want.Collections) < 10 || len(m.Graph().Nodes) < 10 {
		t.Errorf("the run of the test does too little: %+v", want)
	}
}

// Runs have nothing in common, in turn or at the same time.
func TestSideBySide(t *testing.T) {
	var rows [][]byte
	var want []api.Outcome
	var runs []*Model
	for seed := range 8 {
		rows = append(rows, bytesOf(t, grown(t, seed, true)))
		want = append(want, busy(New(rows[seed]), 300, nothing))
		runs = append(runs, New(rows[seed]))
	}
	for s := range 300 {
		for _, m := range runs {
			if s%17 == 5 {
				m.Collect()
			}
			m.Step()
		}
	}
	for i, m := range runs {
		m.Stop(api.OutOfFuel)
		tells(t, "rule 4: in turn", m.Outcome(), want[i])
	}
	have := make([]api.Outcome, len(want))
	var workers sync.WaitGroup
	for i, row := range rows {
		workers.Go(func() { have[i] = busy(New(row), 300, nothing) })
	}
	workers.Wait()
	for i, o := range have {
		tells(t, "rule 4: at the same time", o, want[i])
	}
}
