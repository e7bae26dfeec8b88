package hash

import (
	"sync"
	"testing"

	"hearth/api"
)

// answers is all that the calls of this package answer to three ints.
type answers struct {
	of, slot, heads int
	grows           bool
}

func told(in [3]int) answers {
	return answers{
		of:    Of(api.Value{Kind: in[2], N: in[0]}, in[1]),
		slot:  Slot(in[0], in[1]),
		heads: Heads(in[1]),
		grows: Grows(in[0], in[1]),
	}
}

// inputs are a number, a serial or a capacity, and a kind.
func inputs() [][3]int {
	var out [][3]int
	kinds, capacities := keyKinds(), append(spines(), 0, 5, -4, 1024, least)
	for i, n := range more() {
		out = append(out, [3]int{n, capacities[i%len(capacities)], kinds[i%len(kinds)]}, [3]int{n, i, 1 + i%4})
	}
	return out
}

func TestP1105SameAnswersInAnyOrder(t *testing.T) {
	in := inputs()
	first := make([]answers, len(in))
	for i, x := range in {
		first[i] = told(x)
	}
	for i := len(in) - 1; i >= 0; i-- {
		if got := told(in[i]); got != first[i] {
			t.Errorf("P1105: of %v: %v, then %v", in[i], first[i], got)
		}
	}
}

func TestP1105SameAnswersSideBySide(t *testing.T) {
	in := inputs()
	workers := make([][]answers, 4)
	var all sync.WaitGroup
	for w := range workers {
		all.Go(func() {
			for _, x := range in {
				workers[w] = append(workers[w], told(x))
			}
		})
	}
	all.Wait()
	for i, x := range in {
		want := told(x)
		for w := range workers {
			if workers[w][i] != want {
				t.Errorf("P1105: of %v, by worker %d: %v, want %v", x, w, workers[w][i], want)
			}
		}
	}
}
