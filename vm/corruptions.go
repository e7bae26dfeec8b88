package vm

import (
	"hearth/api"
	"hearth/table"
)

// corruptions are those that are still to be made, by their steps; those of one step in the script's order.
type corruptions struct {
	coming map[int][]api.Poke
}

// byStep is the list of these corruptions.
func byStep(pokes []api.Poke) corruptions {
	coming := make(map[int][]api.Poke)
	for _, p := range pokes {
		coming[p.Step] = append(coming[p.Step], p)
	}
	return corruptions{coming}
}

// corrupt makes the corruptions of a step. A boundary is come to again behind a collection: what was made there is gone then.
func (c *corruptions) corrupt(heap *table.Heap, step int) {
	for _, p := range c.coming[step] {
		heap.Poke(p.At, p.Word)
	}
	delete(c.coming, step)
}
