package fix

import (
	"math"
	"math/big"
	"testing"
)

const (
	none      = 0x7FF8000000000001
	signBit   = -1 << 63
	infinity  = 0x7FF0000000000000
	minusZero = signBit
	greatest  = 0x7FEFFFFFFFFFFFFF
	leastFull = 0x0010000000000000 // the least number with a full fraction
	one       = 0x3FF0000000000000
)

func isNone(bits int) bool { return bits&infinity == infinity && bits&(1<<52-1) != 0 }

func isInfinite(bits int) bool { return bits&^signBit == infinity }

func isZero(bits int) bool { return bits&^signBit == 0 }

// patterns are floats at each edge, of both signs: 0, the parts below a full fraction, ties, the greatest, infinity, what is no number; and some that lie anywhere.
func patterns() []int {
	out := []int{0, 1, 2, 3, leastFull - 1, leastFull, leastFull + 1, one - 1, one, one + 1, 0x4000000000000000, 0x4008000000000000,
		0x3FE0000000000000, 0x3FB999999999999A, 0x3FC999999999999A, 0x3CA0000000000000, 0x3CA0000000000001, 0x3C90000000000000, 0x4340000000000000, 0x4340000000000001,
		0x43B0000000000000, 0x1FF0000000000000, 0x5FF0000000000000, 0x7FD0000000000000, 0x7FE0000000000000, greatest - 1, greatest, infinity,
		infinity + 1, 0x7FF8000000000000, none, 0x7FFFFFFFFFFFFFFF}
	for _, b := range out {
		out = append(out, b|signBit)
	}
	return append(out, scattered(20)...)
}

// exactFloat tells the number of a finite pattern, out of its sign, exponent and fraction.
func exactFloat(bits int) *big.Rat {
	exponent, fraction := bits>>52&0x7FF, bits&(1<<52-1)
	if exponent == 0 {
		exponent = 1
	} else {
		fraction |= 1 << 52
	}
	n, d := bigOf(fraction), big.NewInt(1)
	if shift := exponent - 1075; shift >= 0 {
		n.Lsh(n, uint(shift))
	} else {
		d.Lsh(d, uint(-shift))
	}
	if bits < 0 {
		n.Neg(n)
	}
	return new(big.Rat).SetFrac(n, d)
}

// nearestBits tells the pattern nearest to a number, rounded once; of 0 the one with that sign.
func nearestBits(x *big.Rat, sign int) int {
	if x.Sign() < 0 {
		sign = signBit
	} else if x.Sign() > 0 {
		sign = 0
	}
	f, _ := new(big.Rat).Abs(x).Float64()
	return int(math.Float64bits(f)) | sign
}

func wantAdd(a, b int) int {
	switch {
	case isNone(a) || isNone(b) || isInfinite(a) && isInfinite(b) && a != b:
		return none
	case isInfinite(a):
		return a
	case isInfinite(b):
		return b
	}
	return nearestBits(new(big.Rat).Add(exactFloat(a), exactFloat(b)), zeroOfSum(a, b))
}

// zeroOfSum tells the sign that a sum of 0 has.
func zeroOfSum(a, b int) int {
	if isZero(a) && isZero(b) {
		return a & b & signBit
	}
	return 0
}

func wantSub(a, b int) int { return wantAdd(a, b^signBit) }

func wantMul(a, b int) int {
	sign := (a ^ b) & signBit
	switch {
	case isNone(a) || isNone(b) || isInfinite(a) && isZero(b) || isZero(a) && isInfinite(b):
		return none
	case isInfinite(a) || isInfinite(b):
		return infinity | sign
	}
	return nearestBits(new(big.Rat).Mul(exactFloat(a), exactFloat(b)), sign)
}

func wantDiv(a, b int) int {
	sign := (a ^ b) & signBit
	switch {
	case isNone(a) || isNone(b) || isInfinite(a) && isInfinite(b) || isZero(a) && isZero(b):
		return none
	case isInfinite(a) || isZero(b):
		return infinity | sign
	case isInfinite(b):
		return sign
	}
	return nearestBits(new(big.Rat).Quo(exactFloat(a), exactFloat(b)), sign)
}

func TestP104Examples(t *testing.T) {
	for _, x := range []struct {
		f    float64
		bits int
	}{
		{1, one}, {-0.5, -0x4020000000000000}, {0, 0}, {math.Copysign(0, -1), minusZero}, {3, 0x4008000000000000},
		{math.Inf(1), infinity}, {math.Inf(-1), -0x10000000000000}, {math.SmallestNonzeroFloat64, 1}, {math.MaxFloat64, greatest},
	} {
		if got := Bits(x.f); got != x.bits {
			t.Errorf("P104: Bits(%v) = %#x, want %#x", x.f, got, x.bits)
		}
		if got := Float(x.bits); got != x.f || math.Signbit(got) != math.Signbit(x.f) {
			t.Errorf("P104: Float(%#x) = %v, want %v", x.bits, got, x.f)
		}
	}
}

func TestP104NoNumber(t *testing.T) {
	for _, f := range []float64{math.NaN(), -math.NaN(), math.Copysign(math.NaN(), -1), math.Inf(1) - math.Inf(1), math.Float64frombits(0xFFF8000000000000), math.Float64frombits(0x7FF0000000000001)} {
		if got := Bits(f); got != none {
			t.Errorf("P104: Bits of no number = %#x", got)
		}
	}
	for _, b := range patterns() {
		if got := Float(b); (got != got) != isNone(b) {
			t.Errorf("P104: Float(%#x) = %v", b, got)
		}
	}
}

func TestP104BitsOfFloat(t *testing.T) {
	for _, b := range patterns() {
		want := b
		if isNone(b) {
			want = none
		}
		if got := Bits(Float(b)); got != want {
			t.Errorf("P104: Bits(Float(%#x)) = %#x, want %#x", b, got, want)
		}
	}
}

func TestP105Examples(t *testing.T) {
	b := Bits
	inf, minusInf := infinity, infinity|signBit
	checkPairs(t, "P105", []pair{
		{"FloAdd", FloAdd, b(1), b(2), 0x4008000000000000}, {"FloAdd", FloAdd, b(0.1), b(0.2), 0x3FD3333333333334},
		{"FloAdd", FloAdd, inf, minusInf, none}, {"FloAdd", FloAdd, inf, inf, inf}, {"FloAdd", FloAdd, inf, b(1), inf},
		{"FloAdd", FloAdd, minusZero, 0, 0}, {"FloAdd", FloAdd, 0, minusZero, 0}, {"FloAdd", FloAdd, minusZero, minusZero, minusZero},
		{"FloAdd", FloAdd, b(1), b(-1), 0}, {"FloAdd", FloAdd, greatest, greatest, inf}, {"FloAdd", FloAdd, 1, 1, 2},
		{"FloAdd", FloAdd, b(1 << 53), b(1), b(1 << 53)}, {"FloAdd", FloAdd, b(1<<53 + 2), b(1), b(1<<53 + 4)},
		{"FloSub", FloSub, b(1), b(2), b(-1)}, {"FloSub", FloSub, inf, inf, none}, {"FloSub", FloSub, inf, minusInf, inf},
		{"FloSub", FloSub, b(1), b(1), 0}, {"FloSub", FloSub, minusZero, 0, minusZero}, {"FloSub", FloSub, 0, 0, 0},
		{"FloMul", FloMul, b(3), b(-0.5), b(-1.5)}, {"FloMul", FloMul, inf, 0, none}, {"FloMul", FloMul, minusZero, inf, none},
		{"FloMul", FloMul, 0, b(-1), minusZero}, {"FloMul", FloMul, 1, b(0.5), 0}, {"FloMul", FloMul, 3, b(0.5), 2}, {"FloMul", FloMul, greatest, b(2), inf},
		{"FloDiv", FloDiv, b(1), b(3), 0x3FD5555555555555}, {"FloDiv", FloDiv, 0, 0, none}, {"FloDiv", FloDiv, inf, minusInf, none},
		{"FloDiv", FloDiv, b(-1), 0, -0x10000000000000}, {"FloDiv", FloDiv, b(-1), minusZero, inf}, {"FloDiv", FloDiv, b(1), inf, 0}, {"FloDiv", FloDiv, 1, b(2), 0},
	})
}

func TestP105NoNumberComesThrough(t *testing.T) {
	for _, bad := range []int{none, infinity + 1, -1, 0x7FF8000000000000, signBit | 0x7FF8000000000000} {
		for _, b := range patterns() {
			checkPairs(t, "P105", []pair{
				{"FloAdd", FloAdd, bad, b, none}, {"FloSub", FloSub, bad, b, none}, {"FloMul", FloMul, bad, b, none}, {"FloDiv", FloDiv, bad, b, none},
				{"FloAdd", FloAdd, b, bad, none}, {"FloSub", FloSub, b, bad, none}, {"FloMul", FloMul, b, bad, none}, {"FloDiv", FloDiv, b, bad, none},
			})
		}
	}
}

func TestP105RoundedOnce(t *testing.T) {
	all := patterns()
	for _, a := range all {
		for _, b := range all {
			checkPairs(t, "P105", []pair{
				{"FloAdd", FloAdd, a, b, wantAdd(a, b)}, {"FloSub", FloSub, a, b, wantSub(a, b)},
				{"FloMul", FloMul, a, b, wantMul(a, b)}, {"FloDiv", FloDiv, a, b, wantDiv(a, b)},
			})
		}
	}
}

func TestP105ProductIsNotFusedWithASum(t *testing.T) {
	x := one + 1
	// The square of 1 + 2^-52 is 1 + 2^-51 + 2^-104: rounded by itself, its last part is gone.
	if got := FloSub(FloMul(x, x), one+2); got != 0 {
		t.Errorf("P105: FloSub(FloMul(x, x), y) = %#x, want 0", got)
	}
}

func TestP106Examples(t *testing.T) {
	for _, x := range []struct {
		a, b int
		want bool
	}{
		{minusZero, 0, false}, {0, minusZero, false}, {0, 1, true}, {1, 0, false}, {0, 0, false}, {Bits(-2), Bits(-1), true}, {Bits(-1), Bits(-2), false},
		{none, 0, false}, {0, none, false}, {none, none, false}, {none, infinity, false}, {-1, 0, false}, {signBit | infinity, none, false},
		{infinity, infinity, false}, {greatest, infinity, true}, {signBit | infinity, signBit | greatest, true}, {signBit | infinity, infinity, true}, {signBit | 1, 0, true},
	} {
		if got := FloLess(x.a, x.b); got != x.want {
			t.Errorf("P106: FloLess(%#x, %#x) = %v", x.a, x.b, got)
		}
	}
}

// rank tells where a pattern that is a number stands among all: both zeros at one place.
func rank(bits int) int {
	if bits < 0 {
		return -(bits &^ signBit)
	}
	return bits
}

func TestP106Order(t *testing.T) {
	for _, a := range patterns() {
		for _, b := range patterns() {
			want := !isNone(a) && !isNone(b) && rank(a) < rank(b)
			if got := FloLess(a, b); got != want {
				t.Errorf("P106: FloLess(%#x, %#x) = %v", a, b, got)
			}
		}
	}
}

func TestP107Examples(t *testing.T) {
	for _, x := range [][2]int{
		{1<<60 - 1, 0x43B0000000000000}, {-1, -0x4010000000000000}, {0, 0}, {1, one}, {-1 << 60, -0x3C50000000000000},
		{1<<53 + 1, 0x4340000000000000}, {1<<53 + 3, 0x4340000000000002}, {-1<<53 - 1, -0x3CC0000000000000},
		{1 << 61, 0}, {1<<61 + 1, one}, {1 << 60, -0x3C50000000000000}, {1<<63 - 1, -0x4010000000000000}, {-1 << 63, 0},
	} {
		if got := ToFlo(x[0]); got != x[1] {
			t.Errorf("P107: ToFlo(%d) = %#x, want %#x", x[0], got, x[1])
		}
	}
}

func TestP107Nearest(t *testing.T) {
	values := wholes()
	for _, near := range []int{1 << 53, 1 << 54, 1 << 55, 1<<60 - 256, -1 << 54, -1 << 60} {
		for i := range 260 {
			values = append(values, near+i)
		}
	}
	for _, v := range values {
		want := nearestBits(new(big.Rat).SetInt(bigOf(bigWrap(bigOf(v)))), 0)
		if got := ToFlo(v); got != want {
			t.Errorf("P107: ToFlo(%d) = %#x, want %#x", v, got, want)
		}
	}
}

func TestP108Examples(t *testing.T) {
	for _, x := range []struct {
		bits, want int
		ok         bool
	}{
		{Bits(-2.9), -2, true}, {Bits(2.9), 2, true}, {Bits(1e300), 0, false}, {Bits(-1e300), 0, false}, {Bits(1 << 60), 0, false}, {Bits(-1 << 60), -1 << 60, true},
		{Bits(1<<60) - 1, 1<<60 - 128, true}, {Bits(-1<<60) + 1, 0, false}, {0, 0, true}, {minusZero, 0, true}, {Bits(-0.9), 0, true}, {Bits(0.9), 0, true}, {1, 0, true}, {signBit | 1, 0, true},
		{none, 0, false}, {-1, 0, false}, {infinity + 1, 0, false}, {infinity, 0, false}, {signBit | infinity, 0, false}, {Bits(1 << 63), 0, false}, {Bits(-1 << 63), 0, false}, {greatest, 0, false},
	} {
		if got, ok := ToFix(x.bits); got != x.want || ok != x.ok {
			t.Errorf("P108: ToFix(%#x) = %d, %v, want %d, %v", x.bits, got, ok, x.want, x.ok)
		}
	}
}

func TestP108CutTowardZero(t *testing.T) {
	all := patterns()
	for shift := range 62 {
		edge := Bits(float64(uint64(1) << shift))
		for _, b := range []int{edge - 1, edge, edge + 1} {
			all = append(all, b, b|signBit)
		}
	}
	for _, b := range all {
		want, fits := 0, false
		if !isNone(b) && !isInfinite(b) {
			x := exactFloat(b)
			cut := new(big.Int).Quo(x.Num(), x.Denom())
			if fits = cut.IsInt64() && Fits(int(cut.Int64())); fits {
				want = int(cut.Int64())
			}
		}
		if got, ok := ToFix(b); got != want || ok != fits {
			t.Errorf("P108: ToFix(%#x) = %d, %v, want %d, %v", b, got, ok, want, fits)
		}
	}
}
