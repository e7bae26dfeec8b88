// Package fix reckons with numbers of 61 bits, and with floats as their bits.
package fix

import (
	"math"

	"hearth/api"
)

// spareBits is how many bits an int has above a fixnum's.
const spareBits = 3

// noNumber is the one pattern that is told of a float that is no number.
const noNumber = 0x7FF8000000000001

// Wrap tells the fixnum that v is, modulo 2^61.
func Wrap(v int) int { return v << spareBits >> spareBits }

// Fits tells whether v is a fixnum.
func Fits(v int) bool { return api.LeastFix <= v && v <= api.MostFix }

// Add is the wrapped sum. (An int's own sum wraps at 2^64, a multiple of 2^61: nothing is lost ahead of Wrap. So it is with Sub and Mul.)
func Add(a, b int) int { return Wrap(a + b) }

// Sub is the wrapped difference.
func Sub(a, b int) int { return Wrap(a - b) }

// Mul is the wrapped product.
func Mul(a, b int) int { return Wrap(a * b) }

// Quot is the wrapped quotient, cut toward 0; by 0 it is 0.
func Quot(a, b int) int {
	c, d := Wrap(a), Wrap(b)
	if d == 0 {
		return 0
	}
	return Wrap(c / d)
}

// Rem is what Quot leaves; by 0 it is 0.
func Rem(a, b int) int {
	c, d := Wrap(a), Wrap(b)
	if d == 0 {
		return 0
	}
	return c % d
}

// Float tells the float of some bits.
func Float(bits int) float64 { return math.Float64frombits(uint64(bits)) }

// Bits tells the bits of a float; all that are no numbers have the same.
func Bits(f float64) int {
	if math.IsNaN(f) {
		return noNumber
	}
	return int(math.Float64bits(f))
}

// FloAdd is the sum of two floats, told as bits.
func FloAdd(a, b int) int { return Bits(Float(a) + Float(b)) }

// FloSub is the difference of two floats, told as bits.
func FloSub(a, b int) int { return Bits(Float(a) - Float(b)) }

// FloMul is the product of two floats, told as bits. (The conversion rounds it here: without it a product may be fused with a sum that it goes into, and be rounded with that one alone.)
func FloMul(a, b int) int { return Bits(float64(Float(a) * Float(b))) }

// FloDiv is the quotient of two floats, told as bits.
func FloDiv(a, b int) int { return Bits(Float(a) / Float(b)) }

// FloLess tells whether one float is less than another one, told as bits.
func FloLess(a, b int) bool { return Float(a) < Float(b) }

// ToFlo tells the bits of the float next to a fixnum.
func ToFlo(v int) int { return Bits(float64(Wrap(v))) }

// ToFix tells the fixnum that a float is, cut toward 0; false: there is none.
func ToFix(bits int) (int, bool) {
	f := math.Trunc(Float(bits))
	// MostFix itself is no float; the next whole number is one. What is no number is in no range.
	if f >= api.LeastFix && f < api.MostFix+1 {
		return int(f), true
	}
	return 0, false
}
