package hearth

import (
	"slices"

	"hearth/api"
	"hearth/model"
	"hearth/vm"
)

// pair is one program's run over the arena, and over a graph.
type pair struct {
	arena       *vm.VM
	graph       *model.Model
	events      int
	texts       int // of the logs that were found to be the same
	collections int
}

// together plays both runs of a script without corruptions. One that is rejected, or has no room at its beginning, has nothing to be followed.
func together(script api.Script) string {
	p := pair{arena: vm.New(script), graph: model.New(script.Program)}
	if end := p.arena.Outcome().End; end == api.Rejected || end == api.OutOfMemory {
		return numbered("same", 0) + lineEnd
	}
	return p.play()
}

// play tells how many events there were, or how many until the two parted.
func (p *pair) play() string {
	word := "unlike"
	if p.staysAlike() {
		word = "same"
	}
	return numbered(word, p.events) + lineEnd
}

// staysAlike plays both runs to their ends; false: they have parted.
func (p *pair) staysAlike() bool {
	for p.alike() {
		switch p.arena.Step() {
		case api.Ended:
			p.stop()
			return p.alike()
		case api.Collected:
			p.events++
			if p.graph.Collect() != p.arena.Report() {
				return false
			}
		case api.Executed:
			p.events++
			p.graph.Step()
		}
	}
	return false
}

// stop ends the graph's run where the arena has ended the other one.
func (p *pair) stop() {
	if end := p.arena.Outcome().End; end == api.OutOfMemory || end == api.OutOfFuel {
		p.graph.Stop(end)
	}
}

// alike tells whether both runs have one outcome and one graph.
func (p *pair) alike() bool { return p.oneOutcome() && p.oneGraph() }

// oneOutcome looks at what is new alone: logs and lists of collections only grow, and the events are many.
func (p *pair) oneOutcome() bool {
	a, b := p.arena.Since(p.texts, p.collections), p.graph.Since(p.texts, p.collections)
	p.texts += len(a.Log)
	p.collections += len(a.Collections)
	return sameOutcome(a, b)
}

func (p *pair) oneGraph() bool {
	g, fault := p.arena.Graph()
	return fault.Err == api.OK && sameGraph(g, p.graph.Graph())
}

func sameOutcome(a, b api.Outcome) bool {
	return a.End == b.End && a.Err == b.Err && a.N == b.N && a.At == b.At && a.Value == b.Value && a.Steps == b.Steps &&
		slices.Equal(a.Log, b.Log) && slices.Equal(a.Collections, b.Collections)
}

func sameGraph(a, b api.Graph) bool {
	return slices.Equal(a.Roots, b.Roots) && slices.EqualFunc(a.Nodes, b.Nodes, sameNode)
}

func sameNode(a, b api.Node) bool {
	return a.Id == b.Id && a.Kind == b.Kind && slices.Equal(a.Raw, b.Raw) && slices.Equal(a.Fields, b.Fields) && slices.Equal(a.Entries, b.Entries)
}
