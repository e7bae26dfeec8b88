package header

import (
	"math"
	"sync"
	"testing"
)

func TestP503ThereAndBack(t *testing.T) {
	for _, at := range somePlaces() {
		for _, kind := range someKinds() {
			for _, size := range someSizes() {
				checkRead(t, at, kind, size)
			}
		}
	}
	for at := range places {
		checkRead(t, at, 1+at%kinds, 1+at%sizes)
	}
	for kind := 1; kind <= kinds; kind++ {
		for size := 1; size <= sizes; size++ {
			checkRead(t, kind*8000+size, kind, size)
		}
	}
}

func checkRead(t *testing.T, at, kind, size int) {
	t.Helper()
	w := formula(at, kind, size)
	if k, n, ok := Read(at, w); k != kind || n != size || !ok {
		t.Errorf("P503: Read(%d, %#x) = %d, %d, %v, want %d, %d, true", at, w, k, n, ok, kind, size)
	}
}

func checkNone(t *testing.T, at, w int) {
	t.Helper()
	if k, n, ok := Read(at, w); k != 0 || n != 0 || ok {
		t.Errorf("P503: Read(%d, %#x) = %d, %d, %v, want 0, 0, false", at, w, k, n, ok)
	}
}

// A header tells its own place alone.
func TestP503OtherPlaces(t *testing.T) {
	for _, here := range []int{0, 1, 8, 131072, places - 1} {
		w := Make(here, 3, 5)
		for at := -40; at < places+40; at++ {
			if at != here {
				checkNone(t, at, w)
			}
		}
		for _, at := range badPlaces() {
			checkNone(t, at, w)
		}
	}
}

func TestP503NoBitMayTurn(t *testing.T) {
	for _, at := range somePlaces() {
		for _, kind := range []int{1, 13, 16, 31} {
			for _, size := range []int{1, 2, 3, 32, 1023, 1024} {
				w := Make(at, kind, size)
				for bit := range 64 {
					checkNone(t, at, w^1<<bit)
				}
				checkNone(t, at, -w)
				checkNone(t, at, ^w)
			}
		}
	}
}

// What comes out of the formula of numbers of which one is not good is no header, though its sign is right.
func TestP503FormulaOfNotGood(t *testing.T) {
	for _, at := range badPlaces() {
		checkNone(t, at, formula(at, 1, 3))
		checkNone(t, at, formula(at, 31, 1024))
	}
	for _, at := range []int{0, 7, places - 1} {
		for kind := -100; kind <= 300; kind++ {
			if kind < 1 || kind > 31 {
				checkNone(t, at, formula(at, kind, 3))
				checkNone(t, at, formula(at, kind, 1024))
			}
		}
		for size := -3000; size <= 5000; size++ {
			if size < 1 || size > 1024 {
				checkNone(t, at, formula(at, 1, size))
				checkNone(t, at, formula(at, 31, size))
			}
		}
		checkNone(t, at, formula(at, 0, 0))
	}
}

func TestP503NoHeaderAtAll(t *testing.T) {
	words := append(far(), math.MaxInt, math.MinInt)
	for w := -3000; w <= 3000; w++ {
		words = append(words, w)
	}
	for kind := range 32 {
		for size := range 2048 {
			words = append(words, (kind+size*32)*8+5)
		}
	}
	for _, w := range words {
		for _, at := range []int{0, 1, 8, places - 1, -1, places, math.MinInt, math.MaxInt} {
			checkNone(t, at, w)
		}
	}
}

// 0 is what Make answers where there is no header: it is none.
func TestP503Zero(t *testing.T) {
	for _, at := range append(badPlaces(), somePlaces()...) {
		checkNone(t, at, 0)
	}
}

func TestP503Examples(t *testing.T) {
	w := Make(0, 1, 3)
	if k, n, ok := Read(0, w); k != 1 || n != 3 || !ok {
		t.Errorf("P503: Read(0, Make(0, 1, 3)) = %d, %d, %v, want 1, 3, true", k, n, ok)
	}
	checkNone(t, 1, w)
	checkNone(t, 0, 5)
	checkNone(t, -1, 0)
}

// answers is all that the calls of this package answer to three ints.
type answers struct {
	word       int
	kind, size int
	ok         bool
}

func told(x [3]int) answers {
	var out answers
	out.word = Make(x[0], x[1], x[2])
	out.kind, out.size, out.ok = Read(x[0], formula(x[0], x[1], x[2]))
	return out
}

// inputs are places, kinds and sizes, good and not.
func inputs() [][3]int {
	var out [][3]int
	for i, at := range somePlaces() {
		out = append(out, [3]int{at, 1 + i%kinds, 1 + i}, [3]int{at, i % 40, 1000 + i})
	}
	for i, at := range badPlaces() {
		out = append(out, [3]int{at, 1, 3}, [3]int{i, badKinds()[i], 3}, [3]int{i, 1, badSizes()[i]})
	}
	return out
}

func TestP504SameAnswersInAnyOrder(t *testing.T) {
	in := inputs()
	first := make([]answers, len(in))
	for i, x := range in {
		first[i] = told(x)
	}
	for i := len(in) - 1; i >= 0; i-- {
		if got := told(in[i]); got != first[i] {
			t.Errorf("P504: of %v: %v, then %v", in[i], first[i], got)
		}
	}
}

func TestP504SameAnswersSideBySide(t *testing.T) {
	in := inputs()
	workers := make([][]answers, 4)
	var all sync.WaitGroup
	for w := range workers {
		all.Go(func() {
			for _, x := range in {
				workers[w] = append(workers[w], told(x))
			}
		})
	}
	all.Wait()
	for i, x := range in {
		want := told(x)
		for w := range workers {
			if workers[w][i] != want {
				t.Errorf("P504: of %v, by worker %d: %v, want %v", x, w, workers[w][i], want)
			}
		}
	}
}
