package fix

import (
	"math/big"
	"testing"

	"hearth/api"
)

type pair struct {
	name string
	f    func(a, b int) int
	a, b int
	want int
}

func checkPairs(t *testing.T, promise string, rows []pair) {
	t.Helper()
	for _, r := range rows {
		if got := r.f(r.a, r.b); got != r.want {
			t.Errorf("%s: %s(%#x, %#x) = %#x, want %#x", promise, r.name, r.a, r.b, got, r.want)
		}
	}
}

// wholes are ints at and around each edge: of a fixnum, of 61 bits, of an int; and some that lie anywhere.
func wholes() []int {
	out := []int{0, 1, -1, 2, -2, 3, -3, 7, -7, 10, 1 << 30, -1 << 30, 1 << 31, 1<<40 + 1, 1<<53 + 1, -1<<53 - 1}
	for _, edge := range []int{1 << 59, 1 << 60, 1 << 61, 1 << 62, -1 << 59, -1 << 60, -1 << 61, -1 << 62} {
		out = append(out, edge-1, edge, edge+1)
	}
	out = append(out, 1<<63-1, 1<<63-2, -1<<63, -1<<63+1)
	return append(out, scattered(20)...)
}

// scattered tells n ints out of all 64 bits, by a fixed rule.
func scattered(n int) []int {
	out := make([]int, n)
	state := uint64(0x9E3779B97F4A7C15)
	for i := range out {
		state ^= state << 13
		state ^= state >> 7
		state ^= state << 17
		out[i] = int(state)
	}
	return out
}

func bigOf(v int) *big.Int { return big.NewInt(int64(v)) }

// bigWrap tells the fixnum that a whole number without an end is, modulo 2^61, by plain division.
func bigWrap(v *big.Int) int {
	whole := new(big.Int).Lsh(big.NewInt(1), 61)
	half := new(big.Int).Lsh(big.NewInt(1), 60)
	r := new(big.Int).Add(v, half)
	r.Mod(r, whole)
	return int(r.Sub(r, half).Int64())
}

func TestP101WrapExamples(t *testing.T) {
	for _, x := range [][2]int{
		{1 << 60, -(1 << 60)}, {1 << 61, 0}, {-(1 << 60) - 1, 1<<60 - 1},
		{0, 0}, {5, 5}, {-5, -5}, {1<<60 - 1, 1<<60 - 1}, {-1 << 60, -1 << 60},
		{1<<61 + 5, 5}, {-1<<61 - 5, -5}, {1 << 62, 0}, {1<<63 - 1, -1}, {-1 << 63, 0},
	} {
		if got := Wrap(x[0]); got != x[1] {
			t.Errorf("P101: Wrap(%d) = %d, want %d", x[0], got, x[1])
		}
	}
}

func TestP101WrapIsTheOneFixnum(t *testing.T) {
	for _, v := range wholes() {
		got := Wrap(v)
		if got < api.LeastFix || got > api.MostFix || (v-got)%(1<<61) != 0 {
			t.Errorf("P101: Wrap(%d) = %d", v, got)
		}
		if want := bigWrap(bigOf(v)); got != want {
			t.Errorf("P101: Wrap(%d) = %d, want %d", v, got, want)
		}
		if again := Wrap(got); again != got {
			t.Errorf("P101: Wrap(Wrap(%d)) = %d, want %d", v, again, got)
		}
	}
}

func TestP101Fits(t *testing.T) {
	for _, x := range []struct {
		v    int
		want bool
	}{
		{1<<60 - 1, true}, {1 << 60, false}, {-1 << 60, true}, {-1<<60 - 1, false},
		{0, true}, {-1, true}, {1 << 61, false}, {-1 << 61, false}, {1<<63 - 1, false}, {-1 << 63, false},
	} {
		if got := Fits(x.v); got != x.want {
			t.Errorf("P101: Fits(%d) = %v", x.v, got)
		}
	}
	for _, v := range wholes() {
		if got, want := Fits(v), api.LeastFix <= v && v <= api.MostFix; got != want {
			t.Errorf("P101: Fits(%d) = %v", v, got)
		}
	}
}

func TestP102Examples(t *testing.T) {
	checkPairs(t, "P102", []pair{
		{"Add", Add, 1<<60 - 1, 1, -(1 << 60)}, {"Add", Add, 1 << 61, 5, 5}, {"Add", Add, 2, 3, 5},
		{"Add", Add, 1<<63 - 1, 1, 0}, {"Add", Add, 1<<63 - 1, 1<<63 - 1, -2}, {"Add", Add, -1 << 63, -1 << 63, 0},
		{"Sub", Sub, -(1 << 60), 1, 1<<60 - 1}, {"Sub", Sub, 2, 3, -1}, {"Sub", Sub, 0, -1 << 60, -1 << 60},
		{"Sub", Sub, -1 << 63, 1<<63 - 1, 1}, {"Sub", Sub, 1<<63 - 1, -1 << 63, -1},
		{"Mul", Mul, 1 << 30, 1 << 30, -(1 << 60)}, {"Mul", Mul, 1 << 40, 1 << 40, 0}, {"Mul", Mul, 3, 1<<60 - 1, 1<<60 - 3},
		{"Mul", Mul, -7, 6, -42}, {"Mul", Mul, -1 << 60, -1, -1 << 60}, {"Mul", Mul, -1 << 63, -1, 0}, {"Mul", Mul, 1<<63 - 1, 1<<63 - 1, 1},
	})
}

func TestP102SumsAreThoseWithoutAnEnd(t *testing.T) {
	for _, x := range []struct {
		name  string
		f     func(a, b int) int
		exact func(z, a, b *big.Int) *big.Int
	}{{"Add", Add, (*big.Int).Add}, {"Sub", Sub, (*big.Int).Sub}, {"Mul", Mul, (*big.Int).Mul}} {
		for _, a := range wholes() {
			for _, b := range wholes() {
				got, want := x.f(a, b), bigWrap(x.exact(new(big.Int), bigOf(a), bigOf(b)))
				if got != want {
					t.Errorf("P102: %s(%d, %d) = %d, want %d", x.name, a, b, got, want)
				}
				if wrapped := x.f(Wrap(a), Wrap(b)); wrapped != got {
					t.Errorf("P102: %s(%d, %d) of the wrapped = %d, want %d", x.name, a, b, wrapped, got)
				}
			}
		}
	}
}

func TestP103Examples(t *testing.T) {
	checkPairs(t, "P103", []pair{
		{"Quot", Quot, -7, 2, -3}, {"Quot", Quot, 7, -2, -3}, {"Quot", Quot, 7, 2, 3}, {"Quot", Quot, -7, -2, 3},
		{"Rem", Rem, -7, 2, -1}, {"Rem", Rem, 7, -2, 1}, {"Rem", Rem, 7, 2, 1}, {"Rem", Rem, -7, -2, -1},
		{"Quot", Quot, 1, 0, 0}, {"Rem", Rem, 1, 0, 0}, {"Quot", Quot, 0, 0, 0}, {"Rem", Rem, 0, 0, 0},
		{"Quot", Quot, 5, 1 << 61, 0}, {"Rem", Rem, 5, 1 << 61, 0}, {"Quot", Quot, 5, -1 << 63, 0}, {"Rem", Rem, 5, -1 << 63, 0},
		{"Quot", Quot, -(1 << 60), -1, -(1 << 60)}, {"Rem", Rem, -(1 << 60), -1, 0},
		{"Quot", Quot, 1 << 60, -1, -(1 << 60)}, {"Quot", Quot, -(1 << 60), 1<<61 - 1, -(1 << 60)},
		{"Quot", Quot, 1<<61 + 9, 2, 4}, {"Rem", Rem, 1<<61 + 9, 2, 1}, {"Quot", Quot, -1 << 63, -1, 0}, {"Rem", Rem, -1 << 63, -1, 0},
		{"Quot", Quot, 1<<63 - 1, 2, 0}, {"Rem", Rem, 1<<63 - 1, 2, -1}, {"Quot", Quot, 9, 1<<61 + 2, 4}, {"Rem", Rem, 9, 1<<61 + 2, 1},
	})
}

func TestP103DivisionIsThatOfTheWrapped(t *testing.T) {
	for _, a := range wholes() {
		for _, b := range wholes() {
			c, d := bigWrap(bigOf(a)), bigWrap(bigOf(b))
			quot, rem := 0, 0
			if d != 0 {
				q, r := new(big.Int).QuoRem(bigOf(c), bigOf(d), new(big.Int))
				quot, rem = bigWrap(q), int(r.Int64())
			}
			if got := Quot(a, b); got != quot {
				t.Errorf("P103: Quot(%d, %d) = %d, want %d", a, b, got, quot)
			}
			if got := Rem(a, b); got != rem {
				t.Errorf("P103: Rem(%d, %d) = %d, want %d", a, b, got, rem)
			}
		}
	}
}
