package bitmap

import (
	"iter"
	"slices"
	"testing"
)

// numbers are those of the set, rising.
func (p plain) numbers() []int {
	var out []int
	for i, in := range p {
		if in {
			out = append(out, i)
		}
	}
	return out
}

func TestP306AllYieldsTheNumbersRising(t *testing.T) {
	for _, n := range lengths() {
		for _, p := range patterns(n) {
			m := of(t, p)
			if got, want := slices.Collect(m.All()), p.numbers(); !slices.Equal(got, want) {
				t.Errorf("P306: of the length %d: %v, want %v", n, got, want)
			}
			same(t, "P306: going over it changes nothing", m, p)
		}
	}
}

func TestP306AllLooksAtThatMoment(t *testing.T) {
	for _, r := range []struct {
		what string
		turn func(m *Map, i int)
		want []int
	}{
		{"put in ahead, in the same word and in another one", func(m *Map, i int) {
			if i == 4 {
				m.Set(6)
				m.Set(80)
			}
		}, []int{3, 4, 5, 6, 64, 80, 99}},
		{"taken out ahead", func(m *Map, i int) {
			if i == 4 {
				m.Clear(5)
				m.Clear(99)
			}
		}, []int{3, 4, 64}},
		{"put in behind", func(m *Map, i int) { m.Set(i - 1) }, []int{3, 4, 5, 64, 99}},
		{"what was yielded taken out", func(m *Map, i int) { m.Clear(i) }, []int{3, 4, 5, 64, 99}},
		{"taken out and put in again", func(m *Map, i int) {
			m.Reset()
			m.Set(50)
		}, []int{3, 50}},
		{"all taken out", func(m *Map, i int) {
			if i == 5 {
				m.Reset()
			}
		}, []int{3, 4, 5}},
		{"the last number of all put in at the last moment", func(m *Map, i int) {
			m.Clear(99)
			if i == 64 {
				m.Set(99)
			}
		}, []int{3, 4, 5, 64, 99}},
		{"always one more", func(m *Map, i int) {
			m.ClearRange(i+1, 100)
			m.Set(i + 24)
		}, []int{3, 27, 51, 75, 99}},
	} {
		m := sample(t)
		var got []int
		for i := range m.All() {
			got = append(got, i)
			r.turn(m, i)
		}
		if !slices.Equal(got, r.want) {
			t.Errorf("P306: %s: %v, want %v", r.what, got, r.want)
		}
	}
}

func TestP306AllSeesWhatWasPutInBeforeTheLoop(t *testing.T) {
	m := sample(t)
	all := m.All()
	m.Clear(3)
	m.Set(98)
	if got, want := slices.Collect(all), []int{4, 5, 64, 98, 99}; !slices.Equal(got, want) {
		t.Errorf("P306: %v, want %v", got, want)
	}
}

func TestP306AllAgainAndAgain(t *testing.T) {
	m := sample(t)
	all := m.All()
	for i := range all {
		if i == 5 {
			break
		}
	}
	want := []int{3, 4, 5, 64, 99}
	for range 3 {
		if got := slices.Collect(all); !slices.Equal(got, want) {
			t.Errorf("P306: once more: %v, want %v", got, want)
		}
	}
	m.Set(0)
	if got := slices.Collect(all); !slices.Equal(got, append([]int{0}, want...)) {
		t.Errorf("P306: behind Set(0): %v", got)
	}
	m.Reset()
	if got := slices.Collect(all); len(got) != 0 {
		t.Errorf("P306: behind Reset: %v", got)
	}
}

func TestP306AllInTheMidstOfItself(t *testing.T) {
	m := sample(t)
	all := m.All()
	var got []int
	for i := range all {
		for j := range all {
			got = append(got, 100*i+j)
		}
	}
	var want []int
	for _, i := range []int{3, 4, 5, 64, 99} {
		for _, j := range []int{3, 4, 5, 64, 99} {
			want = append(want, 100*i+j)
		}
	}
	if !slices.Equal(got, want) {
		t.Errorf("P306: one loop in another: %v", got)
	}
}

func TestP306AllEndsWhereItIsLeft(t *testing.T) {
	turns := 0
	sample(t).All()(func(int) bool {
		turns++
		return turns < 2
	})
	if turns != 2 {
		t.Errorf("P306: left behind 2 numbers, it yielded %d", turns)
	}
}

func TestP306AllPulled(t *testing.T) {
	m := sample(t)
	next, stop := iter.Pull(m.All())
	defer stop()
	first, _ := next()
	m.ClearRange(0, 99)
	last, ok := next()
	_, more := next()
	if first != 3 || last != 99 || !ok || more {
		t.Errorf("P306: pulled one by one: %d, then %d %v, more: %v", first, last, ok, more)
	}
}
