package layout

import (
	"testing"

	"hearth/api"
)

func checkSize(t *testing.T, kind, n, want int) {
	t.Helper()
	if got, ok := Size(kind, n); got != want || ok != (want > 0) {
		t.Errorf("P602: Size(%d, %d) = %d, %v, want %d, %v", kind, n, got, ok, want, want > 0)
	}
}

func checkFits(t *testing.T, kind, size int, want bool) {
	t.Helper()
	if got := Fits(kind, size); got != want {
		t.Errorf("P603: Fits(%d, %d) = %v, want %v", kind, size, got, want)
	}
}

// The api's names stand for the kinds of the table's lines.
func TestP601Kinds(t *testing.T) {
	kinds := []int{api.KindPair, api.KindBox, api.KindVector, api.KindText, api.KindFlo, api.KindClosure, api.KindCont, api.KindWeak, api.KindEph, api.KindTable, api.KindFrame, api.KindSpine, api.KindEntry}
	for i, r := range rows() {
		if kinds[i] != r.kind {
			t.Errorf("P601: line %d has the kind %d, want %d", i, kinds[i], r.kind)
		}
	}
}

// Each object of the table has its size, its words' roles and none else.
func TestP601Layouts(t *testing.T) {
	for x, object := range table() {
		kind, n := x[0], x[1]
		size, ok := Size(kind, n)
		if size != len(object) || !ok {
			t.Errorf("P601: an object of the kind %d with %d parts has %d words, %v, want %d", kind, n, size, ok, len(object))
			continue
		}
		for i, want := range object {
			if got := Role(kind, size, i); got != want {
				t.Errorf("P601: of kind %d with %d parts word %d has the role %d, want %d", kind, n, i, got, want)
			}
		}
	}
}

func TestP602Size(t *testing.T) {
	all := table()
	for kind := -3; kind <= 20; kind++ {
		for n := -600; n <= 5000; n++ {
			checkSize(t, kind, n, len(all[[2]int{kind, n}]))
		}
	}
}

func TestP602FarNumbers(t *testing.T) {
	for kind := 1; kind <= 13; kind++ {
		for _, n := range far() {
			checkSize(t, kind, n, 0)
		}
	}
}

func TestP602NoKind(t *testing.T) {
	for _, kind := range noKinds() {
		for _, n := range append(far(), -1, 0, 1, 4, 8, 512, 1023, kind) {
			checkSize(t, kind, n, 0)
		}
	}
}

func TestP602Edges(t *testing.T) {
	for _, x := range [][3]int{
		{api.KindVector, api.MaxVector, api.MaxSize},
		{api.KindVector, api.MaxVector + 1, 0},
		{api.KindText, api.MaxText, 514},
		{api.KindText, api.MaxText + 1, 0},
		{api.KindClosure, api.MaxCaptures, 65},
		{api.KindClosure, api.MaxCaptures + 1, 0},
		{api.KindFrame, api.MaxLocals + api.MaxStack, 133},
		{api.KindFrame, api.MaxLocals + api.MaxStack + 1, 0},
		{api.KindSpine, api.MaxCapacity, 513},
		{api.KindSpine, 2 * api.MaxCapacity, 0},
		{api.KindSpine, 1, 0},
		{api.KindSpine, 2, 0},
		{api.KindSpine, 4, 5},
	} {
		checkSize(t, x[0], x[1], x[2])
	}
}

func TestP602Examples(t *testing.T) {
	for _, x := range [][3]int{
		{api.KindPair, 0, 3}, {api.KindPair, 1, 0}, {api.KindVector, 0, 1}, {api.KindVector, 1024, 0},
		{api.KindText, 0, 2}, {api.KindText, 1, 3}, {api.KindText, 8, 3}, {api.KindText, 9, 4}, {api.KindText, 4096, 514},
		{api.KindFrame, 128, 133}, {api.KindFrame, 129, 0}, {api.KindSpine, 0, 0}, {api.KindSpine, 12, 0}, {api.KindSpine, 512, 513}, {14, 0, 0},
	} {
		checkSize(t, x[0], x[1], x[2])
	}
}

func TestP603Fits(t *testing.T) {
	all := bySize()
	for kind := -3; kind <= 20; kind++ {
		for size := -1200; size <= 5000; size++ {
			_, want := all[[2]int{kind, size}]
			checkFits(t, kind, size, want)
		}
	}
}

// What Size answers fits, and nothing that it does not answer for some parts.
func TestP603AsSize(t *testing.T) {
	for kind := 1; kind <= 13; kind++ {
		sizes := map[int]int{}
		for n := -10; n <= 5000; n++ {
			if size, ok := Size(kind, n); ok {
				sizes[size]++
			}
		}
		for size := -10; size <= 1100; size++ {
			checkFits(t, kind, size, sizes[size] > 0)
		}
	}
}

func TestP603FarNumbers(t *testing.T) {
	for kind := 1; kind <= 13; kind++ {
		for _, size := range far() {
			checkFits(t, kind, size, false)
		}
	}
}

func TestP603NoKind(t *testing.T) {
	for _, kind := range noKinds() {
		for _, size := range append(far(), -1, 0, 1, 2, 3, 4, 5, 9, 513, 1024, kind) {
			checkFits(t, kind, size, false)
		}
	}
}

func TestP603Examples(t *testing.T) {
	checkFits(t, api.KindBox, 2, true)
	checkFits(t, api.KindBox, 3, false)
	checkFits(t, api.KindText, 1, false)
	checkFits(t, api.KindVector, 1024, true)
	checkFits(t, api.KindClosure, 66, false)
	checkFits(t, api.KindSpine, 9, true)
	checkFits(t, api.KindSpine, 10, false)
}
