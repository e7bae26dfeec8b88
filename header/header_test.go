package header

import (
	"math"
	"math/big"
	"testing"
)

// The chapter's limits, written out.
const (
	places = 262144
	kinds  = 31
	sizes  = 1024
)

// formula is the chapter's words on Make, reckoned with numbers without an end, of any three numbers: the good ones and those that are not.
func formula(at, kind, size int) int {
	x := sum(product(at, 65536), product(kind, 2048), big.NewInt(int64(size)))
	sign := new(big.Int).Mul(x, big.NewInt(0x9E3779B97F5))
	sign.Mod(sign, new(big.Int).Lsh(big.NewInt(1), 44))
	body := sum(big.NewInt(int64(kind)), product(size, 32), sign.Mul(sign, big.NewInt(65536)))
	word := sum(body.Mul(body, big.NewInt(8)), big.NewInt(5))
	return int(word.Int64())
}

func product(a, b int) *big.Int {
	return new(big.Int).Mul(big.NewInt(int64(a)), big.NewInt(int64(b)))
}

func sum(parts ...*big.Int) *big.Int {
	out := new(big.Int)
	for _, p := range parts {
		out.Add(out, p)
	}
	return out
}

// somePlaces, someKinds and someSizes are good numbers: the ends of their ranges, the powers of 2 and their neighbours, and some between.
func somePlaces() []int { return append(around(places-1, 0), 12345, 99991, 200003) }
func someKinds() []int  { return append(around(kinds, 1), 11, 13, 21) }
func someSizes() []int  { return append(around(sizes, 1), 3, 5, 100, 777) }

func around(most, least int) []int {
	out := []int{least, most}
	for p := 1; p <= most; p *= 2 {
		for n := p - 1; n <= p+1; n++ {
			if n >= least && n <= most {
				out = append(out, n)
			}
		}
	}
	return out
}

// far are numbers that are good for nothing; some have the low bits of a good one.
func far() []int {
	out := []int{math.MinInt, math.MinInt + 1, math.MaxInt, math.MaxInt - 1}
	for shift := 19; shift < 63; shift++ {
		out = append(out, 1<<shift, 1<<shift+1, -1<<shift, -1<<shift+1)
	}
	return out
}

func badPlaces() []int { return append(far(), -1, -2, -places, places, places+1, 2*places) }
func badKinds() []int  { return append(far(), -1, 0, -31, 32, 33, 63, 64, 65, 257, 65536, 65537) }
func badSizes() []int {
	return append(far(), -1, 0, -1024, 1025, 1026, 2047, 2048, 2049, 4096, 65536, 65537)
}

func TestP501GoodNumbers(t *testing.T) {
	for at := -40; at < places+40; at++ {
		check501(t, at, 1+at&15, 1+at&1023)
	}
	for kind := -100; kind <= 300; kind++ {
		check501(t, 77, kind, 7)
	}
	for size := -3000; size <= 5000; size++ {
		check501(t, 77, 7, size)
	}
	for kind := -1; kind <= kinds+1; kind++ {
		for size := -1; size <= sizes+1; size++ {
			check501(t, 0, kind, size)
			check501(t, places-1, kind, size)
		}
	}
}

func check501(t *testing.T, at, kind, size int) {
	t.Helper()
	good := at >= 0 && at <= 262143 && kind >= 1 && kind <= 31 && size >= 1 && size <= 1024
	if got := Make(at, kind, size); (got != 0) != good {
		t.Errorf("P501: Make(%d, %d, %d) = %#x; are they good: %v", at, kind, size, got, good)
	}
}

func TestP502Make(t *testing.T) {
	for _, at := range somePlaces() {
		for _, kind := range someKinds() {
			for _, size := range someSizes() {
				check502(t, at, kind, size)
			}
		}
	}
}

func TestP502AllPlaces(t *testing.T) {
	for at := range places {
		check502(t, at, 1+at%kinds, 1+at%sizes)
	}
}

func TestP502AllShapes(t *testing.T) {
	for kind := 1; kind <= kinds; kind++ {
		for size := 1; size <= sizes; size++ {
			check502(t, kind*8000+size, kind, size)
		}
	}
}

func check502(t *testing.T, at, kind, size int) {
	t.Helper()
	got := Make(at, kind, size)
	if want := formula(at, kind, size); got != want {
		t.Errorf("P502: Make(%d, %d, %d) = %#x, want %#x", at, kind, size, got, want)
	}
	if got <= 0 || got&7 != 5 {
		t.Errorf("P502: Make(%d, %d, %d) = %#x: no word above 0 with the tag 5", at, kind, size, got)
	}
}

func TestP502NotGood(t *testing.T) {
	for _, at := range badPlaces() {
		check502None(t, at, 1, 3)
		check502None(t, at, 31, 1024)
	}
	for _, kind := range badKinds() {
		check502None(t, 0, kind, 3)
		check502None(t, places-1, kind, 1024)
	}
	for _, size := range badSizes() {
		check502None(t, 0, 1, size)
		check502None(t, places-1, 31, size)
	}
	for i, at := range badPlaces() {
		kind, size := badKinds()[i], badSizes()[i]
		check502None(t, at, kind, size)
		check502None(t, at, kind, 3)
		check502None(t, at, 1, size)
		check502None(t, 0, kind, size)
	}
}

func check502None(t *testing.T, at, kind, size int) {
	t.Helper()
	if got := Make(at, kind, size); got != 0 {
		t.Errorf("P502: Make(%d, %d, %d) = %#x, want 0", at, kind, size, got)
	}
}

func TestP502UnlikeSigns(t *testing.T) {
	seen := map[int][3]int{}
	look := func(at, kind, size int) {
		sign, me := Make(at, kind, size)>>19, [3]int{at, kind, size}
		if other, there := seen[sign]; there && other != me {
			t.Errorf("P502: %v and %v have one sign", other, me)
		}
		seen[sign] = me
	}
	for at := range places {
		look(at, 1, 3)
	}
	for kind := 1; kind <= kinds; kind++ {
		for size := 1; size <= sizes; size++ {
			look(0, kind, size)
			look(places-1, kind, size)
		}
	}
}

func TestP502Examples(t *testing.T) {
	if got, want := Make(0, 1, 3), 0x96743926FDF0061*8+5; got != want {
		t.Errorf("P502: Make(0, 1, 3) = %#x, want %#x", got, want)
	}
	for _, x := range [][3]int{{-1, 1, 3}, {0, 0, 3}, {0, 32, 3}, {0, 1, 0}, {0, 1, 1025}, {262144, 1, 3}} {
		check502None(t, x[0], x[1], x[2])
	}
}
