package value

import (
	"math/big"
	"testing"

	"hearth/api"
)

const (
	greatest = 1<<63 - 1
	least    = -1 << 63
)

// edges are ints at and around each edge that the chapter names, and those of rune's and an int's width.
func edges() []int {
	var out []int
	for _, edge := range []int{0, 8, 65, 0xD800, 0xDFFF, 0xE000, 0x10FFFF, 0x110000, api.MaxBits, 1 << 31, 1 << 32, -1 << 31, -1 << 32, api.MostFix, api.LeastFix, 1 << 61, -1 << 61} {
		for d := -9; d <= 9; d++ {
			out = append(out, edge+d)
		}
	}
	// Numbers that are right ones, with a high bit beside them.
	for _, n := range []int{0, 1, 5, 65, 0x10FFFF} {
		for _, high := range []int{1 << 31, 1 << 32, 1 << 33, 1 << 61, 1 << 62, least} {
			out = append(out, n|high)
		}
	}
	return append(out, greatest, greatest-1, least, least+1)
}

// kinds are those of the values, and others around them.
func kinds() []int {
	return []int{least, -8, -7, -1, 0, 1, 2, 3, 4, 5, 6, 7, 8, 9, 1<<32 + 1, greatest}
}

// lowest and highest tell the numbers of a kind, as the chapter's table has them; 0 and -1: it has none.
func lowest(kind int) int {
	if kind == 1 {
		return -1152921504606846976
	}
	return 0
}

func highest(kind int) int {
	switch kind {
	case 1, 2:
		return 1152921504606846975
	case 3:
		return 5
	case 4:
		return 1114111
	}
	return -1
}

// wantValid tells by the chapter's table whether there is such a value.
func wantValid(kind, n int) bool {
	surrogate := kind == 4 && 55296 <= n && n <= 57343
	return lowest(kind) <= n && n <= highest(kind) && !surrogate
}

func TestP201ValidAtTheEdges(t *testing.T) {
	for _, kind := range kinds() {
		for _, n := range edges() {
			v := api.Value{Kind: kind, N: n}
			if got := Valid(v); got != wantValid(kind, n) {
				t.Errorf("P201: Valid(%v) = %v", v, got)
			}
		}
	}
}

func TestP201ValidRows(t *testing.T) {
	for _, r := range []struct {
		v    api.Value
		want bool
	}{
		{api.Value{Kind: api.ValFix, N: 0}, true},
		{api.Value{Kind: api.ValFix, N: -1}, true},
		{api.Value{Kind: api.ValFix, N: 1<<60 - 1}, true},
		{api.Value{Kind: api.ValFix, N: 1 << 60}, false},
		{api.Value{Kind: api.ValFix, N: -1 << 60}, true},
		{api.Value{Kind: api.ValFix, N: -1<<60 - 1}, false},
		{api.Value{Kind: api.ValRef, N: 0}, true},
		{api.Value{Kind: api.ValRef, N: -1}, false},
		{api.Value{Kind: api.ValRef, N: -1 << 60}, false},
		{api.Value{Kind: api.ValRef, N: api.MaxBits}, true},
		{api.Value{Kind: api.ValRef, N: 1<<60 - 1}, true},
		{api.Value{Kind: api.ValRef, N: 1 << 60}, false},
		{api.Value{Kind: api.ValImm, N: api.ImmNil}, true},
		{api.Value{Kind: api.ValImm, N: api.ImmUnbound}, true},
		{api.Value{Kind: api.ValImm, N: -1}, false},
		{api.Value{Kind: api.ValImm, N: 6}, false},
		{api.Value{Kind: api.ValChar, N: 0}, true},
		{api.Value{Kind: api.ValChar, N: 'e'}, true},
		{api.Value{Kind: api.ValChar, N: -1}, false},
		{api.Value{Kind: api.ValChar, N: 0xD7FF}, true},
		{api.Value{Kind: api.ValChar, N: 0xD800}, false},
		{api.Value{Kind: api.ValChar, N: 0xDFFF}, false},
		{api.Value{Kind: api.ValChar, N: 0xE000}, true},
		{api.Value{Kind: api.ValChar, N: 0xFFFD}, true},
		{api.Value{Kind: api.ValChar, N: 0x10FFFF}, true},
		{api.Value{Kind: api.ValChar, N: 0x110000}, false},
		{api.Value{Kind: api.ValChar, N: 1<<32 + 'e'}, false},
		{api.Value{Kind: 0, N: 0}, false},
		{api.Value{Kind: 5, N: 1}, false},
		{api.Value{Kind: -1, N: 0}, false},
		{api.Value{Kind: 1<<32 + 1, N: 0}, false},
	} {
		if got := Valid(r.v); got != r.want {
			t.Errorf("P201: Valid(%v) = %v, want %v", r.v, got, r.want)
		}
	}
}

func TestP201EveryChar(t *testing.T) {
	for n := -70000; n <= 0x110000+70000; n++ {
		v := api.Value{Kind: api.ValChar, N: n}
		if got := Valid(v); got != wantValid(4, n) {
			t.Fatalf("P201: Valid(%v) = %v", v, got)
		}
	}
}

func TestP202MakingAtTheEdges(t *testing.T) {
	makers := []struct {
		name string
		kind int
		f    func(int) api.Value
	}{{"Fix", 1, Fix}, {"Ref", 2, Ref}, {"Imm", 3, Imm}, {"Char", 4, Char}}
	for _, m := range makers {
		for _, n := range edges() {
			want := api.Value{}
			if wantValid(m.kind, n) {
				want = api.Value{Kind: m.kind, N: n}
			}
			if got := m.f(n); got != want {
				t.Errorf("P202: %s(%d) = %v, want %v", m.name, n, got, want)
			}
		}
	}
}

func TestP202MakingExamples(t *testing.T) {
	for _, r := range []struct {
		name      string
		got, want api.Value
	}{
		{"Fix(5)", Fix(5), api.Value{Kind: 1, N: 5}},
		{"Fix(1 << 60)", Fix(1 << 60), api.Value{}},
		{"Ref(-1)", Ref(-1), api.Value{}},
		{"Imm(6)", Imm(6), api.Value{}},
		{"Char(0xD800)", Char(0xD800), api.Value{}},
		{"Ref(7)", Ref(7), api.Value{Kind: 2, N: 7}},
		{"Imm(4)", Imm(4), api.Value{Kind: 3, N: 4}},
		{"Char(955)", Char(955), api.Value{Kind: 4, N: 955}},
	} {
		if r.got != r.want {
			t.Errorf("P202: %s = %v, want %v", r.name, r.got, r.want)
		}
	}
}

// wantWord tells the word of a body and a tag by plain reckoning: the body times 8 and the tag; false: no int is that.
func wantWord(body, tag int) (int, bool) {
	w := new(big.Int).Mul(big.NewInt(int64(body)), big.NewInt(8))
	w.Add(w, big.NewInt(int64(tag)))
	return int(w.Int64()), w.IsInt64()
}

func TestP203WordAtTheEdges(t *testing.T) {
	for _, kind := range kinds() {
		for _, n := range edges() {
			v := api.Value{Kind: kind, N: n}
			want, ok := 0, wantValid(kind, n)
			if ok {
				fits := false
				if want, fits = wantWord(n, kind-1); !fits {
					t.Fatalf("P203: the word of %v is no int", v)
				}
			}
			if w, yes := Word(v); w != want || yes != ok {
				t.Errorf("P203: Word(%v) = %d, %v, want %d, %v", v, w, yes, want, ok)
			}
		}
	}
}

func TestP203ReadAtTheEdges(t *testing.T) {
	for _, body := range edges() {
		for tag := 0; tag < 8; tag++ {
			w, fits := wantWord(body, tag)
			if !fits {
				continue
			}
			want, ok := api.Value{}, wantValid(tag+1, body)
			if ok {
				want = api.Value{Kind: tag + 1, N: body}
			}
			if v, yes := Read(w); v != want || yes != ok {
				t.Errorf("P203: Read(%d) = %v, %v, want %v, %v", w, v, yes, want, ok)
			}
		}
	}
}

func TestP203ThereAndBack(t *testing.T) {
	words := edges()
	for w := -5000; w <= 5000; w++ {
		words = append(words, w)
	}
	for _, w := range words {
		v, ok := Read(w)
		if !ok {
			continue
		}
		if again, yes := Word(v); again != w || !yes {
			t.Errorf("P203: Word(Read(%d)) = %d, %v", w, again, yes)
		}
	}
	for _, kind := range kinds() {
		for _, n := range edges() {
			v := api.Value{Kind: kind, N: n}
			w, ok := Word(v)
			if !ok {
				continue
			}
			if again, yes := Read(w); again != v || !yes {
				t.Errorf("P203: Read(Word(%v)) = %v, %v", v, again, yes)
			}
		}
	}
}

func TestP203WordExamples(t *testing.T) {
	for _, r := range []struct {
		v    api.Value
		want int
		ok   bool
	}{
		{api.Value{Kind: 1, N: 5}, 40, true},
		{api.Value{Kind: 1, N: -1}, -8, true},
		{api.Value{Kind: 2, N: 3}, 25, true},
		{api.Value{Kind: 3, N: 0}, 2, true},
		{api.Value{Kind: 4, N: 65}, 523, true},
		{api.Value{Kind: 1, N: -1 << 60}, least, true},
		{api.Value{Kind: 1, N: 1<<60 - 1}, greatest - 7, true},
		{api.Value{Kind: 2, N: 1<<60 - 1}, greatest - 6, true},
		{api.Value{Kind: 0, N: 0}, 0, false},
		{api.Value{Kind: 3, N: 6}, 0, false},
		{api.Value{Kind: 5, N: 1}, 0, false},
		{api.Value{Kind: 1, N: 1 << 60}, 0, false},
		{api.Value{Kind: 2, N: -1}, 0, false},
	} {
		if w, ok := Word(r.v); w != r.want || ok != r.ok {
			t.Errorf("P203: Word(%v) = %d, %v, want %d, %v", r.v, w, ok, r.want, r.ok)
		}
	}
}

func TestP203ReadExamples(t *testing.T) {
	for _, r := range []struct {
		w    int
		want api.Value
		ok   bool
	}{
		{-8, api.Value{Kind: 1, N: -1}, true},
		{10, api.Value{Kind: 3, N: 1}, true},
		{50, api.Value{}, false},
		{1, api.Value{Kind: 2, N: 0}, true},
		{-7, api.Value{}, false},
		{4, api.Value{}, false},
		{5, api.Value{}, false},
		{6, api.Value{}, false},
		{7, api.Value{}, false},
		{0, api.Value{Kind: 1, N: 0}, true},
		{523, api.Value{Kind: 4, N: 65}, true},
		{-6, api.Value{}, false},
		{-5, api.Value{}, false},
		{0xD800*8 + 3, api.Value{}, false},
		{least, api.Value{Kind: 1, N: -1 << 60}, true},
		{least + 1, api.Value{}, false},
		{greatest - 7, api.Value{Kind: 1, N: 1<<60 - 1}, true},
		{greatest, api.Value{}, false},
	} {
		if v, ok := Read(r.w); v != r.want || ok != r.ok {
			t.Errorf("P203: Read(%d) = %v, %v, want %v, %v", r.w, v, ok, r.want, r.ok)
		}
	}
}
