package class

import (
	"math"
	"testing"
)

// The chapter's numbers, written out: the words of a class's blocks, and the blocks of its pages.
var (
	wordsOf  = []int{2, 4, 6, 8, 12, 16, 20, 32}
	blocksOf = []int{32, 16, 10, 8, 5, 4, 3, 2}
)

// noClasses are numbers that are no class: the neighbours of the classes, the ends of the ints, and numbers whose low bits are a class's.
func noClasses() []int {
	return []int{-1, 8, -2, 9, -8, 16, 63, 64, 256, 1 << 32, 1<<32 + 1, -1 << 32, 1 << 62, math.MaxInt, math.MaxInt - 1, math.MinInt, math.MinInt + 1}
}

// farSizes are sizes that no object has, far from those that one has, some with the low bits of one.
func farSizes() []int {
	return []int{-1024, -65, -64, -33, -2, 4096, 65536, 1<<16 + 2, 1 << 31, 1<<32 + 2, 1<<32 + 33, 1 << 62, -1 << 62, math.MaxInt, math.MaxInt - 1, math.MaxInt - 62, math.MaxInt - 63, math.MinInt, math.MinInt + 1}
}

func TestP401Classes(t *testing.T) {
	for c, want := range wordsOf {
		if got := Words(c); got != want {
			t.Errorf("P401: Words(%d) = %d, want %d", c, got, want)
		}
		if got := Blocks(c); got != blocksOf[c] {
			t.Errorf("P401: Blocks(%d) = %d, want %d", c, got, blocksOf[c])
		}
	}
}

func TestP401AsManyBlocksAsFit(t *testing.T) {
	for c := range wordsOf {
		left := 64 - Words(c)*Blocks(c)
		want := 0
		if c == 2 || c == 4 || c == 6 {
			want = 4
		}
		if left != want || left >= Words(c) {
			t.Errorf("P401: a page of class %d has %d words that belong to no block, want %d", c, left, want)
		}
	}
}

func TestP401NoClass(t *testing.T) {
	for _, c := range noClasses() {
		if words, blocks := Words(c), Blocks(c); words != 0 || blocks != 0 {
			t.Errorf("P401: Words(%d), Blocks(%d) = %d, %d, want 0, 0", c, c, words, blocks)
		}
	}
}

// classOf is the chapter's words on Of, gone through one class after the other.
func classOf(size int) int {
	switch {
	case size < 1 || size > 1024:
		return -1
	case size >= 33:
		return 8
	}
	least := -1
	for c := 7; c >= 0; c-- {
		if wordsOf[c] >= size {
			least = c
		}
	}
	return least
}

// pagesOf is the chapter's words on Pages: pages are added as long as they have too few words.
func pagesOf(size int) int {
	if size < 33 || size > 1024 {
		return 0
	}
	pages := 0
	for words := 0; words < size; words += 64 {
		pages++
	}
	return pages
}

func TestP402Of(t *testing.T) {
	for size := -100; size <= 1200; size++ {
		if got, want := Of(size), classOf(size); got != want {
			t.Errorf("P402: Of(%d) = %d, want %d", size, got, want)
		}
	}
}

func TestP402EdgesOfTheClasses(t *testing.T) {
	for c, words := range wordsOf {
		if got := Of(words); got != c {
			t.Errorf("P402: Of(%d) = %d, want %d", words, got, c)
		}
		if got := Of(words + 1); got != c+1 {
			t.Errorf("P402: Of(%d) = %d, want %d", words+1, got, c+1)
		}
	}
}

func TestP402NoSize(t *testing.T) {
	for _, size := range append(farSizes(), 0, -1, 1025) {
		if got := Of(size); got != -1 {
			t.Errorf("P402: Of(%d) = %d, want -1", size, got)
		}
	}
}

func TestP403Pages(t *testing.T) {
	for size := -100; size <= 1200; size++ {
		if got, want := Pages(size), pagesOf(size); got != want {
			t.Errorf("P403: Pages(%d) = %d, want %d", size, got, want)
		}
	}
}

func TestP403EdgesOfThePages(t *testing.T) {
	for pages := 1; pages <= 16; pages++ {
		if got := Pages(64 * pages); got != pages {
			t.Errorf("P403: Pages(%d) = %d, want %d", 64*pages, got, pages)
		}
		if got := Pages(64*pages - 1); got != pages {
			t.Errorf("P403: Pages(%d) = %d, want %d", 64*pages-1, got, pages)
		}
		if got := Pages(64*pages - 31); got != pages {
			t.Errorf("P403: Pages(%d) = %d, want %d", 64*pages-31, got, pages)
		}
	}
}

func TestP403NoWholePages(t *testing.T) {
	for _, size := range append(farSizes(), -1, 0, 1, 2, 31, 32, 1025) {
		if got := Pages(size); got != 0 {
			t.Errorf("P403: Pages(%d) = %d, want 0", size, got)
		}
	}
}

func TestExamples(t *testing.T) {
	for _, x := range []struct {
		call      string
		got, want int
	}{
		{"P402: Of(0)", Of(0), -1}, {"P402: Of(1)", Of(1), 0}, {"P402: Of(2)", Of(2), 0}, {"P402: Of(3)", Of(3), 1},
		{"P402: Of(6)", Of(6), 2}, {"P402: Of(9)", Of(9), 4}, {"P402: Of(32)", Of(32), 7}, {"P402: Of(33)", Of(33), 8},
		{"P402: Of(1024)", Of(1024), 8}, {"P402: Of(1025)", Of(1025), -1},
		{"P401: Words(4)", Words(4), 12}, {"P401: Blocks(4)", Blocks(4), 5}, {"P401: Words(8)", Words(8), 0}, {"P401: Blocks(-1)", Blocks(-1), 0},
		{"P403: Pages(32)", Pages(32), 0}, {"P403: Pages(33)", Pages(33), 1}, {"P403: Pages(64)", Pages(64), 1},
		{"P403: Pages(65)", Pages(65), 2}, {"P403: Pages(1024)", Pages(1024), 16}, {"P403: Pages(1025)", Pages(1025), 0},
		{"P404: Start(2, 9)", Start(2, 9), 54}, {"P404: Start(2, 10)", Start(2, 10), -1}, {"P404: Start(7, 1)", Start(7, 1), 32}, {"P404: Start(0, -1)", Start(0, -1), -1},
		{"P404: Index(2, 54)", Index(2, 54), 9}, {"P404: Index(2, 55)", Index(2, 55), -1}, {"P404: Index(2, 60)", Index(2, 60), -1},
		{"P404: Index(4, 12)", Index(4, 12), 1}, {"P404: Index(8, 0)", Index(8, 0), -1}, {"P404: Index(0, 64)", Index(0, 64), -1},
	} {
		if x.got != x.want {
			t.Errorf("%s = %d, want %d", x.call, x.got, x.want)
		}
	}
}
