package bitmap

import (
	"math/rand"
	"slices"
	"testing"

	"hearth/api"
)

const (
	greatest = 1<<63 - 1
	least    = -1 << 63
)

// plain is a set as the chapter's words tell it: a yes or no for each number, looked at one by one.
type plain []bool

func (p plain) count(from, to int) int {
	n := 0
	for i, in := range p {
		if in && i >= from && i < to {
			n++
		}
	}
	return n
}

func (p plain) next(from int) int {
	for i, in := range p {
		if in && i >= from {
			return i
		}
	}
	return -1
}

func (p plain) gap(from, n int) int {
	for i := range p {
		if i >= from && n >= 1 && n <= len(p)-i && !slices.Contains(p[i:i+n], true) {
			return i
		}
	}
	return -1
}

func (p plain) fill(from, to int, in bool) api.Errno {
	if from < 0 || to > len(p) || from > to {
		return 10
	}
	for i := from; i < to; i++ {
		p[i] = in
	}
	return 0
}

func (p plain) put(i int, in bool) api.Errno {
	if i < 0 || i >= len(p) {
		return 10
	}
	p[i] = in
	return 0
}

// made is a map of that length, into which nothing was put yet.
func made(t testing.TB, n int) *Map {
	t.Helper()
	m, e := New(n)
	if m == nil || e != api.OK {
		t.Fatalf("P301: New(%d): %v, %d", n, m, e)
	}
	return m
}

// of is a map with the numbers of p.
func of(t testing.TB, p plain) *Map {
	t.Helper()
	m := made(t, len(p))
	for i, in := range p {
		if in {
			m.Set(i)
		}
	}
	return m
}

// same tells a fault, if the map is not that set.
func same(t *testing.T, what string, m *Map, p plain) {
	t.Helper()
	if m.Len() != len(p) {
		t.Fatalf("%s: Len() = %d, want %d", what, m.Len(), len(p))
	}
	for i, in := range p {
		if m.Get(i) != in {
			t.Fatalf("%s: Get(%d) = %v", what, i, !in)
		}
	}
}

// lengths are those around the edges of words, and some more.
func lengths() []int {
	return []int{0, 1, 2, 7, 63, 64, 65, 100, 127, 128, 129, 191, 192, 193}
}

// around are numbers inside a map of that length, at the edges of its words and its own, and far outside.
func around(n int) []int {
	out := []int{least, least + 1, -1 << 40, -65, -64, -63, -2, 1 << 31, 1 << 32, 1<<32 + 1, 1 << 40, greatest - 64, greatest - 1, greatest}
	for _, edge := range []int{0, 64, 128, 192, n} {
		for d := -1; d <= 2; d++ {
			out = append(out, edge+d)
		}
	}
	slices.Sort(out)
	return slices.Compact(out)
}

// patterns are sets of that length: none, all, every so manyth, runs, and some without a rule.
func patterns(n int) []plain {
	rules := []func(i int) bool{
		func(int) bool { return false },
		func(int) bool { return true },
		func(i int) bool { return i%2 == 1 },
		func(i int) bool { return i%3 == 0 },
		func(i int) bool { return i/5%2 == 0 },
		func(i int) bool { return i/64%2 == 0 },
		func(i int) bool { return i/64%2 == 1 },
		func(i int) bool { return i == 0 || i == n-1 },
		func(i int) bool { return i != 63 && i != 64 },
		func(i int) bool { return i == 62 || i == 130 },
	}
	source := rand.New(rand.NewSource(int64(n)))
	for _, part := range []int{2, 10, 40} {
		rules = append(rules, func(int) bool { return source.Intn(part) == 0 })
	}
	var out []plain
	for _, rule := range rules {
		p := make(plain, n)
		for i := range p {
			p[i] = rule(i)
		}
		out = append(out, p)
	}
	return out
}

func TestP301New(t *testing.T) {
	for _, n := range append(lengths(), 262143, 262144) {
		m := made(t, n)
		same(t, "P301: at the beginning", m, make(plain, n))
		if m.Count() != 0 || m.Next(0) != -1 {
			t.Errorf("P301: New(%d) has %d numbers, the first %d", n, m.Count(), m.Next(0))
		}
	}
	for _, n := range []int{least, least + 1, -1 << 32, -64, -1, 262145, 262208, 1 << 31, 1 << 32, 1<<32 + 5, greatest - 63, greatest} {
		if m, e := New(n); m != nil || e != 1 {
			t.Errorf("P301: New(%d): %v, %d, want nil, 1", n, m, e)
		}
	}
}

func TestP301TheLongestMapHoldsItsLastNumber(t *testing.T) {
	m := made(t, 262144)
	if m.Set(262143) != 0 || m.Set(262144) != 10 || !m.Get(262143) || m.Count() != 1 || m.Next(1) != 262143 {
		t.Errorf("P301, P302: the last number: %d in, the first %d", m.Count(), m.Next(0))
	}
	if m.SetRange(0, 262144) != 0 || m.Count() != 262144 || m.Gap(0, 1) != -1 {
		t.Errorf("P303: all numbers: %d in", m.Count())
	}
	if m.ClearRange(0, 262144) != 0 || m.Count() != 0 || m.Gap(0, 262144) != 0 || m.Gap(0, 262145) != -1 || m.Gap(1, 262144) != -1 {
		t.Errorf("P303, P305: no number: %d in, %d", m.Count(), m.Gap(0, 262144))
	}
}

func TestP302OneNumber(t *testing.T) {
	for _, n := range lengths() {
		for _, p := range patterns(n) {
			m := of(t, p)
			same(t, "P302: Set", m, p)
			for _, i := range around(n) {
				want := i >= 0 && i < n && p[i]
				if got := m.Get(i); got != want {
					t.Errorf("P302: of the length %d: Get(%d) = %v", n, i, got)
				}
				for _, in := range []bool{true, true, false, false, want} {
					if got, want := put(m, i, in), p.put(i, in); got != want {
						t.Errorf("P302: of the length %d: %d becomes %v: %d, want %d", n, i, in, got, want)
					}
					same(t, "P302: behind Set or Clear", m, p)
				}
			}
		}
	}
}

// put puts i in, or takes it out.
func put(m *Map, i int, in bool) api.Errno {
	if in {
		return m.Set(i)
	}
	return m.Clear(i)
}

// fill puts a range in, or takes it out.
func fill(m *Map, from, to int, in bool) api.Errno {
	if in {
		return m.SetRange(from, to)
	}
	return m.ClearRange(from, to)
}

func TestP303RangesOfEveryBoundary(t *testing.T) {
	for _, n := range []int{0, 1, 63, 64, 65, 129} {
		for from := -2; from <= n+2; from++ {
			for to := -2; to <= n+2; to++ {
				for _, in := range []bool{true, false} {
					p := make(plain, n)
					m := made(t, n)
					fill(m, 0, n, !in)
					p.fill(0, n, !in)
					if got, want := fill(m, from, to, in), p.fill(from, to, in); got != want {
						t.Errorf("P303: of the length %d: %d to %d become %v: %d, want %d", n, from, to, in, got, want)
					}
					same(t, "P303", m, p)
				}
			}
		}
	}
}

func TestP303RangesKeepTheOtherNumbers(t *testing.T) {
	for _, n := range lengths() {
		for _, p := range patterns(n) {
			m := of(t, p)
			for _, from := range around(n) {
				for _, to := range around(n) {
					in := (from^to)&1 == 0
					if got, want := fill(m, from, to, in), p.fill(from, to, in); got != want {
						t.Errorf("P303: of the length %d: %d to %d become %v: %d, want %d", n, from, to, in, got, want)
					}
					same(t, "P303: of a pattern", m, p)
				}
			}
		}
	}
}

func TestP304Counting(t *testing.T) {
	for _, n := range lengths() {
		for _, p := range patterns(n) {
			m := of(t, p)
			if got, want := m.Count(), p.count(0, n); got != want {
				t.Errorf("P304: of the length %d: Count() = %d, want %d", n, got, want)
			}
			for _, from := range around(n) {
				for _, to := range around(n) {
					if got, want := m.CountRange(from, to), p.count(from, to); got != want {
						t.Errorf("P304: of the length %d: CountRange(%d, %d) = %d, want %d", n, from, to, got, want)
					}
				}
			}
			same(t, "P304: counting changes nothing", m, p)
		}
	}
}

func TestP304CountRangeOfEveryBoundary(t *testing.T) {
	p := patterns(130)[10]
	m := of(t, p)
	for from := -1; from <= 131; from++ {
		for to := -1; to <= 131; to++ {
			if got, want := m.CountRange(from, to), p.count(from, to); got != want {
				t.Errorf("P304: CountRange(%d, %d) = %d, want %d", from, to, got, want)
			}
		}
	}
}

func TestP305Next(t *testing.T) {
	for _, n := range lengths() {
		for _, p := range patterns(n) {
			m := of(t, p)
			for from := -1; from <= n+1; from++ {
				if got, want := m.Next(from), p.next(from); got != want {
					t.Errorf("P305: of the length %d: Next(%d) = %d, want %d", n, from, got, want)
				}
			}
			for _, from := range around(n) {
				if got, want := m.Next(from), p.next(from); got != want {
					t.Errorf("P305: of the length %d: Next(%d) = %d, want %d", n, from, got, want)
				}
			}
			same(t, "P305: looking changes nothing", m, p)
		}
	}
}

func TestP305Gap(t *testing.T) {
	for _, n := range lengths() {
		wide := append(around(n), 3, 4, 5, 6, 40, 66, 90)
		for _, p := range patterns(n) {
			m := of(t, p)
			for _, from := range append(around(n), 5, 9, 31, 62, 90) {
				for _, room := range wide {
					if got, want := m.Gap(from, room), p.gap(from, room); got != want {
						t.Errorf("P305: of the length %d: Gap(%d, %d) = %d, want %d", n, from, room, got, want)
					}
				}
			}
			same(t, "P305: looking changes nothing", m, p)
		}
	}
}

func TestP305GapBetweenTwoNumbers(t *testing.T) {
	const n = 150
	for low := 0; low < n; low += 7 {
		for high := low; high < n; high++ {
			p := make(plain, n)
			p[low], p[high] = true, true
			m := of(t, p)
			for _, room := range []int{1, 2, high - low - 1, high - low, n - 1 - high, n - high, low, low + 1} {
				for _, from := range []int{0, low, low + 1, low + 2, high, high + 1} {
					if got, want := m.Gap(from, room), p.gap(from, room); got != want {
						t.Errorf("P305: with %d and %d: Gap(%d, %d) = %d, want %d", low, high, from, room, got, want)
					}
				}
			}
		}
	}
}

// sample is the map of the chapter's examples.
func sample(t *testing.T) *Map {
	t.Helper()
	m := made(t, 100)
	for _, i := range []int{3, 4, 5, 64, 99} {
		if e := m.Set(i); e != api.OK {
			t.Fatalf("P302: Set(%d): %d", i, e)
		}
	}
	return m
}

func TestExamplesOfOnesAndRanges(t *testing.T) {
	m := sample(t)
	for _, r := range []struct {
		call      string
		got, want api.Errno
	}{
		{"P302: Set(3)", m.Set(3), api.OK},
		{"P302: Set(100)", m.Set(100), api.ErrBit},
		{"P302: Clear(-1)", m.Clear(-1), api.ErrBit},
		{"P302: Clear(7)", m.Clear(7), api.OK},
		{"P303: SetRange(4, 4)", m.SetRange(4, 4), api.OK},
		{"P303: SetRange(98, 101)", m.SetRange(98, 101), api.ErrBit},
		{"P303: ClearRange(5, 4)", m.ClearRange(5, 4), api.ErrBit},
	} {
		if r.got != r.want {
			t.Errorf("%s: %d, want %d", r.call, r.got, r.want)
		}
	}
	if !m.Get(99) || m.Get(6) || m.Get(1<<40) || m.Count() != 5 {
		t.Errorf("P302, P304: %v, %v, %v, %d", m.Get(99), m.Get(6), m.Get(1<<40), m.Count())
	}
	if e := m.ClearRange(0, 100); e != api.OK || m.Count() != 0 {
		t.Errorf("P303: ClearRange(0, 100): %d, %d in", e, m.Count())
	}
}

func TestExamplesOfLooks(t *testing.T) {
	m, none := sample(t), made(t, 0)
	for _, r := range []struct {
		call      string
		got, want int
	}{
		{"P304: CountRange(4, 65)", m.CountRange(4, 65), 3},
		{"P304: CountRange(-9, 1 << 40)", m.CountRange(-9, 1<<40), 5},
		{"P304: CountRange(5, 4)", m.CountRange(5, 4), 0},
		{"P305: Next(-5)", m.Next(-5), 3},
		{"P305: Next(4)", m.Next(4), 4},
		{"P305: Next(6)", m.Next(6), 64},
		{"P305: Next(65)", m.Next(65), 99},
		{"P305: Next(100)", m.Next(100), -1},
		{"P305: Gap(0, 3)", m.Gap(0, 3), 0},
		{"P305: Gap(0, 4)", m.Gap(0, 4), 6},
		{"P305: Gap(2, 2)", m.Gap(2, 2), 6},
		{"P305: Gap(65, 34)", m.Gap(65, 34), 65},
		{"P305: Gap(65, 35)", m.Gap(65, 35), -1},
		{"P305: Gap(-1, 1)", m.Gap(-1, 1), 0},
		{"P305: Gap(0, 0)", m.Gap(0, 0), -1},
		{"P301: of New(0): Next(0)", none.Next(0), -1},
		{"P301: of New(0): Gap(0, 1)", none.Gap(0, 1), -1},
	} {
		if r.got != r.want {
			t.Errorf("%s: %d, want %d", r.call, r.got, r.want)
		}
	}
}
