package fix

import (
	"slices"
	"sync"
	"testing"
)

// told is all that the calls of this package answer to two ints, as numbers.
func told(a, b int) []int {
	n, ok := ToFix(a)
	out := []int{Wrap(a), Add(a, b), Sub(a, b), Mul(a, b), Quot(a, b), Rem(a, b), Bits(Float(a)), FloAdd(a, b), FloSub(a, b), FloMul(a, b), FloDiv(a, b), ToFlo(a), n}
	for _, yes := range []bool{ok, Fits(a), FloLess(a, b)} {
		if yes {
			out = append(out, 1)
		} else {
			out = append(out, 0)
		}
	}
	return out
}

// inputs are pairs of ints, edges of both kinds.
func inputs() [][2]int {
	var out [][2]int
	all := append(wholes(), patterns()...)
	for i, a := range all {
		out = append(out, [2]int{a, all[(i*7+3)%len(all)]})
	}
	return out
}

func TestP109SameAnswersInAnyOrder(t *testing.T) {
	in := inputs()
	first := make([][]int, len(in))
	for i, x := range in {
		first[i] = told(x[0], x[1])
	}
	for i := len(in) - 1; i >= 0; i-- {
		if got := told(in[i][0], in[i][1]); !slices.Equal(got, first[i]) {
			t.Errorf("P109: of %#x: %v, then %v", in[i], first[i], got)
		}
	}
}

func TestP109SameAnswersSideBySide(t *testing.T) {
	in := inputs()
	answers := make([][][]int, 4)
	var all sync.WaitGroup
	for w := range answers {
		all.Go(func() {
			for _, x := range in {
				answers[w] = append(answers[w], told(x[0], x[1]))
			}
		})
	}
	all.Wait()
	for i, x := range in {
		want := told(x[0], x[1])
		for w := range answers {
			if !slices.Equal(answers[w][i], want) {
				t.Errorf("P109: of %#x, by worker %d: %v, want %v", x, w, answers[w][i], want)
			}
		}
	}
}
