package value

import (
	"sync"
	"testing"

	"hearth/api"
)

// answers is all that the calls of this package answer to two ints.
type answers struct {
	fix, ref, imm, char, read api.Value
	word, link, next          int
	yes                       [5]bool
}

func told(a, b int) answers {
	var out answers
	out.fix, out.ref, out.imm, out.char = Fix(a), Ref(a), Imm(a), Char(a)
	v := api.Value{Kind: b, N: a}
	out.yes[0] = Valid(v)
	out.word, out.yes[1] = Word(v)
	out.read, out.yes[2] = Read(a)
	out.yes[3] = Less(v, api.Value{Kind: a, N: b})
	out.link = Link(a)
	out.next, out.yes[4] = Next(a)
	return out
}

// inputs are pairs of a number and a kind.
func inputs() [][2]int {
	var out [][2]int
	all := kinds()
	for i, n := range edges() {
		out = append(out, [2]int{n, all[i%len(all)]}, [2]int{n, 1 + i%4})
	}
	return out
}

func TestP206SameAnswersInAnyOrder(t *testing.T) {
	in := inputs()
	first := make([]answers, len(in))
	for i, x := range in {
		first[i] = told(x[0], x[1])
	}
	for i := len(in) - 1; i >= 0; i-- {
		if got := told(in[i][0], in[i][1]); got != first[i] {
			t.Errorf("P206: of %v: %v, then %v", in[i], first[i], got)
		}
	}
}

func TestP206SameAnswersSideBySide(t *testing.T) {
	in := inputs()
	workers := make([][]answers, 4)
	var all sync.WaitGroup
	for w := range workers {
		all.Go(func() {
			for _, x := range in {
				workers[w] = append(workers[w], told(x[0], x[1]))
			}
		})
	}
	all.Wait()
	for i, x := range in {
		want := told(x[0], x[1])
		for w := range workers {
			if workers[w][i] != want {
				t.Errorf("P206: of %v, by worker %d: %v, want %v", x, w, workers[w][i], want)
			}
		}
	}
}
