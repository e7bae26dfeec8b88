package class

import (
	"math"
	"sync"
	"testing"
)

// starts is a page of a class, cut from its first word on into the chapter's number of blocks: where each one begins.
func starts(c int) []int {
	var out []int
	offset := 0
	for range blocksOf[c] {
		out = append(out, offset)
		offset += wordsOf[c]
	}
	return out
}

// farPlaces are numbers that are no block's and no offset of a page, some of which come out right if they are cut to fewer bits, or wrapped by a multiplication.
func farPlaces() []int {
	return []int{-1000, -128, 1000, 1 << 16, 1 << 31, 1 << 32, 1<<32 + 2, 1 << 58, 1 << 59, 1 << 60, 1 << 61, 1 << 62, 1 << 63 / 3, -1 << 32, -1 << 58, -1 << 62, math.MaxInt, math.MaxInt - 1, math.MinInt, math.MinInt + 1}
}

func TestP404Start(t *testing.T) {
	for c := range wordsOf {
		want := starts(c)
		for i := -70; i <= 140; i++ {
			place := -1
			if i >= 0 && i < len(want) {
				place = want[i]
			}
			if got := Start(c, i); got != place {
				t.Errorf("P404: Start(%d, %d) = %d, want %d", c, i, got, place)
			}
		}
	}
}

func TestP404Index(t *testing.T) {
	for c := range wordsOf {
		which := map[int]int{}
		for i, offset := range starts(c) {
			which[offset] = i
		}
		for offset := -200; offset <= 400; offset++ {
			want, there := which[offset]
			if !there {
				want = -1
			}
			if got := Index(c, offset); got != want {
				t.Errorf("P404: Index(%d, %d) = %d, want %d", c, offset, got, want)
			}
		}
	}
}

func TestP404ThereAndBack(t *testing.T) {
	for c := range wordsOf {
		for i := range Blocks(c) {
			offset := Start(c, i)
			if offset < 0 || offset+Words(c) > 64 {
				t.Errorf("P404: block %d of class %d begins at %d, and does not lie in its page", i, c, offset)
			}
			if got := Index(c, offset); got != i {
				t.Errorf("P404: Index(%d, %d) = %d, want %d", c, offset, got, i)
			}
		}
	}
}

// The words of a page behind its last block are no block's beginning.
func TestP404WordsOfNoBlock(t *testing.T) {
	for _, c := range []int{2, 4, 6} {
		for offset := 60; offset < 64; offset++ {
			if got := Index(c, offset); got != -1 {
				t.Errorf("P404: Index(%d, %d) = %d, want -1", c, offset, got)
			}
		}
		if got := Start(c, blocksOf[c]); got != -1 {
			t.Errorf("P404: Start(%d, %d) = %d, want -1", c, blocksOf[c], got)
		}
	}
}

func TestP404FarPlaces(t *testing.T) {
	for c := range wordsOf {
		for _, n := range farPlaces() {
			if got := Start(c, n); got != -1 {
				t.Errorf("P404: Start(%d, %d) = %d, want -1", c, n, got)
			}
			if got := Index(c, n); got != -1 {
				t.Errorf("P404: Index(%d, %d) = %d, want -1", c, n, got)
			}
		}
	}
}

func TestP404NoClass(t *testing.T) {
	for _, c := range noClasses() {
		for _, n := range append(farPlaces(), -1, 0, 1, 2, 32, 63, 64) {
			if got := Start(c, n); got != -1 {
				t.Errorf("P404: Start(%d, %d) = %d, want -1", c, n, got)
			}
			if got := Index(c, n); got != -1 {
				t.Errorf("P404: Index(%d, %d) = %d, want -1", c, n, got)
			}
		}
	}
}

// answers is all that the calls of this package answer to two ints.
type answers struct{ of, words, blocks, pages, start, index int }

func told(a, b int) answers {
	return answers{Of(a), Words(a), Blocks(a), Pages(a), Start(b, a), Index(b, a)}
}

// inputs are pairs of a size, an offset or a block's number, and a class or what is none.
func inputs() [][2]int {
	var out [][2]int
	for a := -3; a <= 1027; a++ {
		out = append(out, [2]int{a, (a + 3) % 8})
	}
	for _, a := range farPlaces() {
		for _, c := range noClasses() {
			out = append(out, [2]int{a, c}, [2]int{c, a})
		}
	}
	return out
}

func TestP405SameAnswersInAnyOrder(t *testing.T) {
	in := inputs()
	first := make([]answers, len(in))
	for i, x := range in {
		first[i] = told(x[0], x[1])
	}
	for i := len(in) - 1; i >= 0; i-- {
		if got := told(in[i][0], in[i][1]); got != first[i] {
			t.Errorf("P405: of %v: %v, then %v", in[i], first[i], got)
		}
	}
}

func TestP405SameAnswersSideBySide(t *testing.T) {
	in := inputs()
	workers := make([][]answers, 4)
	var all sync.WaitGroup
	for w := range workers {
		all.Go(func() {
			for _, x := range in {
				workers[w] = append(workers[w], told(x[0], x[1]))
			}
		})
	}
	all.Wait()
	for i, x := range in {
		want := told(x[0], x[1])
		for w := range workers {
			if workers[w][i] != want {
				t.Errorf("P405: of %v, by worker %d: %v, want %v", x, w, workers[w][i], want)
			}
		}
	}
}
