package prim

import (
	"math"
	"slices"
	"strings"
	"testing"

	"hearth/api"
)

// words tells a fault, if an object has other words.
func words(t testing.TB, promise string, h Heap, v val, kind int, want ...val) {
	t.Helper()
	b, fault := h.Open(v)
	if fault.Err != api.OK || b.Kind != kind || b.Size != 1+len(want) || b.Tag != 0 {
		t.Fatalf("%s: %v is %v, %v", promise, v, b, fault)
	}
	for i, x := range want {
		if have, fault := h.Get(v, 1+i); have != x || fault.Err != api.OK {
			t.Errorf("%s: word %d of %v: %v, %v, want %v", promise, 1+i, v, have, fault, x)
		}
	}
}

func TestExamples(t *testing.T) {
	each(t, func(t *testing.T, h Heap) {
		v := vec(t, h, null(), null(), null())
		for _, x := range []struct {
			op   int
			args list
			want val
			fail api.Fail
		}{
			{48, list{fixed(api.MostFix), fixed(1)}, fixed(api.LeastFix), fine},
			{48, list{fixed(1), yes()}, val{}, failureN(80, 2)},
			{48, list{null(), yes()}, val{}, failureN(80, 1)},
			{31, list{fixed(5)}, val{}, failureN(80, 1)},
			{39, list{v, fixed(3)}, val{}, failureN(81, 3)},
			{39, list{v, fixed(-1)}, val{}, failureN(81, -1)},
			{38, list{fixed(1024), nought()}, val{}, failureN(85, 1024)},
			{46, list{pair(t, h, null(), null())}, fixed(1), fine},
			{46, list{fixed(5)}, fixed(20), fine},
			{46, list{null()}, fixed(21), fine},
			{46, list{letter(65)}, fixed(22), fine},
			{62, list{fixed(0xD800)}, val{}, failureN(85, 55296)},
			{62, list{fixed(65)}, letter(65), fine},
			{60, list{flo(t, h, int(math.Float64bits(2.9)))}, fixed(2), fine},
			{60, list{flo(t, h, bits(-2.9))}, fixed(-2), fine},
			{60, list{flo(t, h, bits(1<<60))}, val{}, failure(85)},
			{30, list{fixed(1)}, val{}, failure(1)},
			{75, list{fixed(1)}, val{}, failure(1)},
		} {
			answers(t, "the examples", h, x.op, x.args, x.want, x.fail)
		}
		needed(t, "the examples", h, 38, list{fixed(7), nought()}, fine, 8)
		needed(t, "the examples", h, 38, list{fixed(1024), nought()}, failureN(85, 1024))
	})
}

func bits(f float64) int { return int(math.Float64bits(f)) }

// Pairs, boxes, weak pairs and ephemerons: what is made, read and turned.
func TestP2103Fields(t *testing.T) {
	each(t, func(t *testing.T, h Heap) {
		box := made(t, h, api.KindBox, 0, 0)
		for _, x := range []struct{ make, kind, first, second int }{{30, 1, 31, 32}, {63, 8, 64, 65}, {67, 9, 68, 69}} {
			v := makes(t, "P2103", h, x.make, fixed(1), box)
			words(t, "P2103", h, v, x.kind, fixed(1), box)
			answers(t, "P2103", h, x.first, list{v}, fixed(1), fine)
			answers(t, "P2103", h, x.second, list{v}, box, fine)
			other := makes(t, "P2103", h, x.make, box, code(5))
			words(t, "P2103", h, other, x.kind, box, code(5))
			words(t, "P2103", h, v, x.kind, fixed(1), box)
		}
		v := makes(t, "P2103", h, 30, fixed(1), fixed(2))
		answers(t, "P2103", h, 33, list{v, v}, nought(), fine)
		words(t, "P2103", h, v, 1, v, fixed(2))
		answers(t, "P2103", h, 34, list{v, letter(9)}, nought(), fine)
		words(t, "P2103", h, v, 1, v, letter(9))
		weak := makes(t, "P2103", h, 63, fixed(1), fixed(2))
		answers(t, "P2103", h, 66, list{weak, v}, nought(), fine)
		words(t, "P2103", h, weak, 8, fixed(1), v)
		b := makes(t, "P2103", h, 35, v)
		words(t, "P2103", h, b, 2, v)
		answers(t, "P2103", h, 36, list{b}, v, fine)
		answers(t, "P2103", h, 37, list{b, no()}, nought(), fine)
		words(t, "P2103", h, b, 2, no())
	})
}

func TestP2103Vectors(t *testing.T) {
	each(t, func(t *testing.T, h Heap) {
		box := made(t, h, api.KindBox, 0, 0)
		for _, n := range []int{0, 1, 2, 31, 32, 63, 64, 1022, 1023} {
			v := makes(t, "P2103", h, 38, fixed(n), box)
			words(t, "P2103", h, v, 3, slices.Repeat(list{box}, n)...)
			answers(t, "P2103", h, 41, list{v}, fixed(n), fine)
			for i := range n {
				answers(t, "P2103", h, 40, list{v, fixed(i), fixed(1000 + i)}, nought(), fine)
			}
			for i := range n {
				answers(t, "P2103", h, 39, list{v, fixed(i)}, fixed(1000+i), fine)
			}
			for _, i := range []int{-1, n, n + 1, -n - 1, 1023, 1 << 32, -1 << 32, api.MostFix, api.MostFix - 1, api.LeastFix} {
				idle(t, "P2103", h, func() {
					answers(t, "P2103", h, 39, list{v, fixed(i)}, val{}, failureN(api.ErrIndex, i))
					answers(t, "P2103", h, 40, list{v, fixed(i), null()}, val{}, failureN(api.ErrIndex, i))
					answers(t, "P2103: the index ahead of the value", h, 40, list{v, fixed(i), ref(api.MostFix)}, val{}, failureN(api.ErrIndex, i))
				})
			}
		}
		for _, n := range []int{-1, 1024, 1025, 1 << 32, api.MostFix, api.LeastFix} {
			refuses(t, "P2103", h, 38, list{fixed(n), null()}, failureN(api.ErrRange, n))
			refuses(t, "P2103", h, 38, list{fixed(n), ref(api.MostFix)}, failureN(api.ErrRange, n))
		}
		words(t, "P2103: there is nothing to set", h, makes(t, "P2103", h, 38, fixed(0), ref(api.MostFix)), 3)
	})
}

func TestP2103Texts(t *testing.T) {
	each(t, func(t *testing.T, h Heap) {
		long := strings.Repeat("0123456\xFF", 512)
		samples := []string{"", "\x00", "a", "hello, hearth", "12345678", "123456789", long, long[1:], strings.Repeat("x", 4096)}
		for _, s := range samples {
			v := text(t, h, s)
			answers(t, "P2103", h, 42, list{v}, fixed(len(s)), fine)
			for i := range len(s) {
				answers(t, "P2103", h, 43, list{v, fixed(i)}, fixed(int(s[i])), fine)
			}
			for _, i := range []int{-1, len(s), len(s) + 1, 4096, 1 << 32, api.MostFix, api.LeastFix} {
				answers(t, "P2103", h, 43, list{v, fixed(i)}, val{}, failureN(api.ErrIndex, i))
			}
			for _, other := range samples {
				want := no()
				if s == other {
					want = yes()
				}
				answers(t, "P2103", h, 44, list{v, text(t, h, other)}, want, fine)
			}
			answers(t, "P2103", h, 44, list{v, v}, yes(), fine)
		}
	})
}

// In the arena a text has the bytes that its length tells of, as far as there is room for them.
func TestP2103TextsOfAnyLength(t *testing.T) {
	h := arena(t, 10)
	v := text(t, h, "hello")
	for _, x := range [][2]int{{-1, 0}, {least, 0}, {0, 0}, {3, 3}, {99, 8}, {most, 8}} {
		sound(t, h.SetRaw(v, 1, x[0]))
		answers(t, "P2103", h, 42, list{v}, fixed(x[1]), fine)
		answers(t, "P2103", h, 43, list{v, fixed(x[1])}, val{}, failureN(api.ErrIndex, x[1]))
		answers(t, "P2103", h, 44, list{v, text(t, h, "hello\x00\x00\x00"[:x[1]])}, yes(), fine)
	}
}

// eq, kind and not, of values of all sorts.
func TestP2103Any(t *testing.T) {
	each(t, func(t *testing.T, h Heap) {
		w := worldOf(t, h)
		truth := map[bool]val{true: yes(), false: no()}
		for _, a := range w.values() {
			for _, b := range w.values() {
				answers(t, "P2103", h, 45, list{a, b}, truth[a == b], fine)
			}
			answers(t, "P2103", h, 47, list{a}, truth[a == no()], fine)
			if a.Kind != api.ValRef {
				answers(t, "P2103", h, 46, list{a}, fixed([]int{1: 20, 3: 21, 4: 22}[a.Kind]), fine)
			}
		}
		for kind, v := range w.byKind() {
			answers(t, "P2103", h, 46, list{v}, fixed(kind), fine)
		}
		answers(t, "P2103", h, 46, list{w.nothing}, val{}, failure(api.ErrRef))
		other := pair(t, h, fixed(1), fixed(2))
		answers(t, "P2103: like, but not one", h, 45, list{w.pair, other}, no(), fine)
	})
}

// The references of a table's own blocks are values too.
func TestP2103OwnBlocks(t *testing.T) {
	h := arena(t, 10)
	v := tab(t, h, fixed(1), fixed(2))
	spine, fault := h.Get(v, 2)
	sound(t, fault)
	answers(t, "P2103", h, 46, list{spine}, fixed(12), fine)
	answers(t, "P2103", h, 39, list{spine, fixed(0)}, val{}, failureN(api.ErrType, 1))
	answers(t, "P2103", h, 37, list{made(t, h, 2, 0, 0), spine}, val{}, failure(api.ErrValue))
	h.Poke(v.N, 0)
	answers(t, "P2103", h, 46, list{v}, val{}, wrongAt(v.N))
}

func TestP2103Sums(t *testing.T) {
	h := arena(t, 1)
	numbers := []int{0, 1, -1, 2, -2, 3, 7, -7, 10, 1 << 30, -1 << 31, 1<<59 + 5, api.MostFix, api.MostFix - 1, api.LeastFix, api.LeastFix + 1}
	wrap := func(n int) val { // by steps of 1 << 61
		for n > api.MostFix {
			n -= 1 << 61
		}
		for n < api.LeastFix {
			n += 1 << 61
		}
		return fixed(n)
	}
	for _, a := range numbers {
		for _, b := range numbers {
			args := list{fixed(a), fixed(b)}
			answers(t, "P2103", h, 48, args, wrap(a+b), fine)
			answers(t, "P2103", h, 49, args, wrap(a-b), fine)
			answers(t, "P2103", h, 50, args, wrap(a*b), fine)
			answers(t, "P2103", h, 53, args, map[bool]val{true: yes(), false: no()}[a < b], fine)
			if b == 0 {
				noDivision(t, h, args)
				continue
			}
			answers(t, "P2103", h, 51, args, wrap(a/b), fine)
			answers(t, "P2103", h, 52, args, fixed(a%b), fine)
		}
	}
	answers(t, "P2103", h, 51, list{fixed(-7), fixed(2)}, fixed(-3), fine)
	answers(t, "P2103", h, 52, list{fixed(-7), fixed(2)}, fixed(-1), fine)
	answers(t, "P2103", h, 51, list{fixed(api.LeastFix), fixed(-1)}, fixed(api.LeastFix), fine)
}

// noDivision tells a fault, if a division is made by 0. Needs has nothing against it.
func noDivision(t *testing.T, h Heap, args list) {
	t.Helper()
	for _, op := range []int{51, 52} {
		answers(t, "P2103", h, op, args, val{}, failure(api.ErrDivide))
		needed(t, "P2105", h, op, args, fine)
	}
}

// toldBits is the bits that are told of a float.
func toldBits(f float64) int {
	if f != f {
		return 0x7FF8000000000001
	}
	return bits(f)
}

func TestP2103Floats(t *testing.T) {
	h := arena(t, 200)
	floats := []float64{0, math.Copysign(0, -1), 1, -1, 1.5, -2.5, 1. / 3, 1e300, -1e300, 5e-324, math.MaxFloat64, math.Inf(1), math.Inf(-1), math.NaN()}
	sums := map[int]func(a, b float64) float64{
		54: func(a, b float64) float64 { return a + b },
		55: func(a, b float64) float64 { return a - b },
		56: func(a, b float64) float64 { return a * b },
		57: func(a, b float64) float64 { return a / b },
	}
	for _, a := range floats {
		for _, b := range floats {
			x, y := flo(t, h, bits(a)), flo(t, h, bits(b))
			for op, sum := range sums {
				holds(t, h, makes(t, "P2103", h, op, x, y), toldBits(sum(a, b)))
			}
			answers(t, "P2103", h, 58, list{x, y}, map[bool]val{true: yes(), false: no()}[a < b], fine)
			holds(t, h, x, bits(a))
			holds(t, h, y, bits(b))
		}
	}
	x := flo(t, h, bits(3))
	holds(t, h, makes(t, "P2103: of one float twice", h, 55, x, x), 0)
}

// holds tells a fault, if something is no float of these bits.
func holds(t testing.TB, h Heap, v val, want int) {
	t.Helper()
	b, fault := h.Open(v)
	n, _ := h.Raw(v, 1)
	if fault.Err != api.OK || b.Kind != api.KindFlo || b.Size != 2 || b.Tag != 0 || n != want {
		t.Errorf("P2103: %v of %x, %v, want the float of %x", b, n, fault, want)
	}
}

func TestP2103Turns(t *testing.T) {
	each(t, func(t *testing.T, h Heap) {
		for _, n := range []int{0, 1, -1, 5, 1<<53 + 1, 1<<53 + 3, api.MostFix, api.LeastFix} {
			holds(t, h, makes(t, "P2103", h, 59, fixed(n)), bits(float64(n)))
		}
		for _, x := range []struct {
			f    float64
			want int
		}{{0, 0}, {math.Copysign(0, -1), 0}, {0.9, 0}, {-0.9, 0}, {2.9, 2}, {-2.9, -2}, {1 << 59, 1 << 59}, {-1 << 60, -1 << 60}, {5e-324, 0}} {
			answers(t, "P2103", h, 60, list{flo(t, h, bits(x.f))}, fixed(x.want), fine)
		}
		for _, f := range []float64{1 << 60, -1<<60 - 256, 1e300, -1e300, math.Inf(1), math.Inf(-1), math.NaN()} {
			v := flo(t, h, bits(f))
			answers(t, "P2103", h, 60, list{v}, val{}, failure(api.ErrRange))
			needed(t, "P2105", h, 60, list{v}, fine)
		}
		for _, n := range []int{0, 65, 0xD7FF, 0xE000, 0xFFFD, 0x10000, 0x10FFFF} {
			answers(t, "P2103", h, 61, list{letter(n)}, fixed(n), fine)
			answers(t, "P2103", h, 62, list{fixed(n)}, letter(n), fine)
		}
		for _, n := range []int{-1, 0xD800, 0xDFFF, 0x110000, 1<<32 + 65, api.MostFix, api.LeastFix} {
			answers(t, "P2103", h, 62, list{fixed(n)}, val{}, failureN(api.ErrRange, n))
			needed(t, "P2105", h, 62, list{fixed(n)}, fine)
		}
	})
}

func TestP2103Tables(t *testing.T) {
	each(t, func(t *testing.T, h Heap) {
		w := worldOf(t, h)
		v, other := makes(t, "P2103", h, 70), makes(t, "P2103", h, 70)
		if b, fault := h.Open(v); b.Kind != api.KindTable || b.Size != 3 || fault.Err != api.OK {
			t.Fatalf("P2103: no table: %v, %v", b, fault)
		}
		var keys list
		for _, k := range w.values() {
			if k != w.frame && k != w.nothing {
				keys = append(keys, k)
			}
		}
		for i, k := range keys {
			answers(t, "P2103", h, 74, list{v}, fixed(i), fine)
			answers(t, "P2103", h, 71, list{v, k, code(5)}, code(5), fine)
			answers(t, "P2103", h, 72, list{v, k, fixed(i)}, nought(), fine)
			answers(t, "P2103", h, 71, list{v, k, code(5)}, fixed(i), fine)
			answers(t, "P2103: again", h, 72, list{v, k, k}, nought(), fine)
			answers(t, "P2103", h, 74, list{v}, fixed(i+1), fine)
		}
		answers(t, "P2103: another table", h, 74, list{other}, fixed(0), fine)
		for i, k := range keys {
			answers(t, "P2103", h, 71, list{v, k, code(5)}, k, fine)
			answers(t, "P2103", h, 73, list{v, k}, nought(), fine)
			answers(t, "P2103: it is gone", h, 71, list{v, k, code(5)}, code(5), fine)
			answers(t, "P2103: once more", h, 73, list{v, k}, nought(), fine)
			answers(t, "P2103", h, 74, list{v}, fixed(len(keys)-i-1), fine)
		}
	})
}

// A count is a raw word: whatever stands there is told, wrapped.
func TestP2103Count(t *testing.T) {
	h := arena(t, 10)
	v := tab(t, h)
	for _, x := range [][2]int{{5, 5}, {-5, -5}, {api.MostFix, api.MostFix}, {api.MostFix + 1, api.LeastFix}, {1 << 61, 0}, {most, -1}, {least, 0}, {least + 3, 3}} {
		sound(t, h.SetRaw(v, 1, x[0]))
		answers(t, "P2103", h, 74, list{v}, fixed(x[1]), fine)
	}
}
