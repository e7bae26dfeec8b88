package layout

import (
	"slices"
	"sync"
	"testing"

	"hearth/api"
)

func checkRole(t *testing.T, kind, size, i, want int) {
	t.Helper()
	if got := Role(kind, size, i); got != want {
		t.Errorf("P604: Role(%d, %d, %d) = %d, want %d", kind, size, i, got, want)
	}
}

func checkFields(t *testing.T, kind, size int, want ...int) {
	t.Helper()
	if got := Fields(kind, size); !slices.Equal(got, want) {
		t.Errorf("P605: Fields(%d, %d) = %v, want %v", kind, size, got, want)
	}
}

func TestP604Role(t *testing.T) {
	for x, object := range bySize() {
		kind, size := x[0], x[1]
		for i := -10; i <= size+10; i++ {
			want := 0
			if i > 0 && i < size {
				want = object[i]
			}
			checkRole(t, kind, size, i, want)
		}
		for _, i := range far() {
			checkRole(t, kind, size, i, 0)
		}
	}
}

// An object of a size that its kind has not has no words.
func TestP604NoSize(t *testing.T) {
	all := bySize()
	for kind := 1; kind <= 13; kind++ {
		for size := -10; size <= 1100; size++ {
			if _, there := all[[2]int{kind, size}]; there {
				continue
			}
			for _, i := range []int{-1, 0, 1, 2, 3, 4, 5, 6, size - 1, size} {
				checkRole(t, kind, size, i, 0)
			}
		}
		for _, size := range far() {
			for _, i := range []int{-1, 0, 1, 2, 3, 4, 5, 6, size - 1, size} {
				checkRole(t, kind, size, i, 0)
			}
		}
	}
}

func TestP604NoKind(t *testing.T) {
	for _, kind := range noKinds() {
		for _, size := range []int{0, 1, 2, 3, 4, 5, 7, 1024, kind} {
			for i := -1; i <= 8; i++ {
				checkRole(t, kind, size, i, 0)
			}
		}
	}
}

func TestP604Examples(t *testing.T) {
	checkRole(t, api.KindFrame, 7, 1, api.RoleFrame)
	checkRole(t, api.KindFrame, 7, 4, api.RoleRaw)
	checkRole(t, api.KindFrame, 7, 6, api.RoleStrong)
	checkRole(t, api.KindFrame, 7, 7, 0)
	checkRole(t, api.KindFrame, 7, 0, 0)
	checkRole(t, api.KindEntry, 4, 3, api.RoleChain)
	checkRole(t, api.KindEntry, 5, 3, 0)
	checkRole(t, api.KindWeak, 3, 1, api.RoleWeak)
}

func TestP605Fields(t *testing.T) {
	for x, object := range bySize() {
		var want []int
		for i, role := range object {
			if i > 0 && role != api.RoleRaw {
				want = append(want, i)
			}
		}
		checkFields(t, x[0], x[1], want...)
	}
}

func TestP605None(t *testing.T) {
	all := bySize()
	for kind := -3; kind <= 20; kind++ {
		for size := -10; size <= 1100; size++ {
			if _, there := all[[2]int{kind, size}]; !there {
				checkFields(t, kind, size)
			}
		}
		for _, size := range far() {
			checkFields(t, kind, size)
		}
	}
	for _, kind := range noKinds() {
		checkFields(t, kind, 3)
		checkFields(t, kind, 1024)
	}
}

// An answer is the asker's own: what is written into it is not in the next one.
func TestP605NewMemory(t *testing.T) {
	for _, x := range [][2]int{{api.KindPair, 3}, {api.KindFrame, 7}, {api.KindVector, 1024}, {api.KindEntry, 4}} {
		first := Fields(x[0], x[1])
		want := slices.Clone(first)
		clear(first)
		clear(first[:cap(first)])
		checkFields(t, x[0], x[1], want...)
	}
}

func TestP605Examples(t *testing.T) {
	checkFields(t, api.KindFrame, 7, 1, 2, 5, 6)
	checkFields(t, api.KindText, 9)
	checkFields(t, api.KindTable, 3, 2)
	checkFields(t, api.KindVector, 1)
	checkFields(t, 0, 3)
}

func TestP606VisibleAndNumbered(t *testing.T) {
	visible := []int{1, 2, 3, 4, 5, 6, 7, 8, 9, 10}
	numbered := append(slices.Clone(visible), 11)
	kinds := append(noKinds(), numbered...)
	for _, kind := range append(kinds, 12, 13) {
		if got, want := Visible(kind), slices.Contains(visible, kind); got != want {
			t.Errorf("P606: Visible(%d) = %v, want %v", kind, got, want)
		}
		if got, want := Numbered(kind), slices.Contains(numbered, kind); got != want {
			t.Errorf("P606: Numbered(%d) = %v, want %v", kind, got, want)
		}
	}
}

// answers is all that the calls of this package answer to three ints.
type answers struct {
	size              int
	ok, fits          bool
	role              int
	fields            []int
	visible, numbered bool
}

func told(x [3]int) answers {
	var out answers
	out.size, out.ok = Size(x[0], x[1])
	out.fits = Fits(x[0], x[1])
	out.role = Role(x[0], x[1], x[2])
	out.fields = Fields(x[0], x[1])
	out.visible, out.numbered = Visible(x[0]), Numbered(x[0])
	return out
}

func (a answers) same(b answers) bool {
	return a.size == b.size && a.ok == b.ok && a.fits == b.fits && a.role == b.role &&
		slices.Equal(a.fields, b.fields) && a.visible == b.visible && a.numbered == b.numbered
}

// inputs are kinds, numbers of parts or words, and numbers of words, good and not.
func inputs() [][3]int {
	var out [][3]int
	for kind := -1; kind <= 15; kind++ {
		for n := range 40 {
			out = append(out, [3]int{kind, n, n - 1}, [3]int{kind, n, n % 5})
		}
		for _, n := range []int{-1, 64, 65, 133, 513, 514, 1023, 1024, 1025} {
			out = append(out, [3]int{kind, n, 1}, [3]int{kind, n, n - 1})
		}
	}
	for i, n := range far() {
		out = append(out, [3]int{i % 16, n, n}, [3]int{n, 3, 1}, [3]int{i % 16, 3, n})
	}
	return out
}

func TestP607SameAnswersInAnyOrder(t *testing.T) {
	in := inputs()
	first := make([]answers, len(in))
	for i, x := range in {
		first[i] = told(x)
	}
	for i := len(in) - 1; i >= 0; i-- {
		if got := told(in[i]); !got.same(first[i]) {
			t.Errorf("P607: of %v: %v, then %v", in[i], first[i], got)
		}
	}
}

func TestP607SameAnswersSideBySide(t *testing.T) {
	in := inputs()
	workers := make([][]answers, 4)
	var all sync.WaitGroup
	for w := range workers {
		all.Go(func() {
			for _, x := range in {
				workers[w] = append(workers[w], told(x))
			}
		})
	}
	all.Wait()
	for i, x := range in {
		want := told(x)
		for w := range workers {
			if !workers[w][i].same(want) {
				t.Errorf("P607: of %v, by worker %d: %v, want %v", x, w, workers[w][i], want)
			}
		}
	}
}
