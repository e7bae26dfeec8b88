package bitmap

import (
	"math/rand"
	"slices"
	"sync"
	"testing"
	"time"

	"hearth/api"
)

func TestP307Reset(t *testing.T) {
	for _, n := range append(lengths(), 262144) {
		m := made(t, n)
		m.SetRange(0, n)
		m.Reset()
		same(t, "P307: Reset", m, make(plain, n))
		m.Reset()
		if m.Count() != 0 || m.Next(0) != -1 {
			t.Errorf("P307: of the length %d, behind Reset: %d in", n, m.Count())
		}
		if n > 0 && (m.Set(n-1) != api.OK || m.Count() != 1) {
			t.Errorf("P307: of the length %d, Set behind Reset: %d in", n, m.Count())
		}
	}
}

func TestP307CopyHasNothingInCommon(t *testing.T) {
	for _, n := range lengths() {
		for _, p := range patterns(n) {
			m := of(t, p)
			c := m.Copy()
			if c == nil || c == m {
				t.Fatalf("P307: of the length %d: Copy() = %p of %p", n, c, m)
			}
			same(t, "P307: Copy", c, p)
			m.Reset()
			same(t, "P307: a copy, the first map reset", c, p)
			m.SetRange(0, n)
			same(t, "P307: a copy, the first map full", c, p)
			c.Reset()
			if m.Count() != n {
				t.Errorf("P307: of the length %d, its copy reset: %d in", n, m.Count())
			}
			for i := range n {
				c.Set(i)
				m.Clear(i)
			}
			if m.Count() != 0 || c.Count() != n {
				t.Errorf("P307: of the length %d: %d in, in its copy %d", n, m.Count(), c.Count())
			}
		}
	}
}

func TestP307CopyOfACopyAndItsIterator(t *testing.T) {
	m := sample(t)
	all := m.All()
	c := m.Copy().Copy()
	m.Reset()
	c.Set(0)
	if got, want := slices.Collect(c.All()), []int{0, 3, 4, 5, 64, 99}; !slices.Equal(got, want) {
		t.Errorf("P307: the copy of a copy: %v, want %v", got, want)
	}
	if got := slices.Collect(all); len(got) != 0 {
		t.Errorf("P306, P307: the first map's iterator yields %v", got)
	}
}

// A map that New refused is nil, and one that nobody made is empty: no call panics there.
func TestNoCallPanicsWithoutAMap(t *testing.T) {
	refused, _ := New(-1)
	for _, m := range []*Map{refused, {}} {
		m.Reset()
		if m.Len() != 0 || m.Get(0) || m.Count() != 0 || m.CountRange(-5, 5) != 0 || m.Next(0) != -1 || m.Gap(0, 1) != -1 {
			t.Errorf("rule 1: %v has numbers", m)
		}
		if m.Set(0) != api.ErrBit || m.Clear(0) != api.ErrBit || m.SetRange(0, 1) != api.ErrBit || m.ClearRange(0, 1) != api.ErrBit || m.SetRange(0, 0) != api.OK {
			t.Errorf("rule 1: %v takes numbers", m)
		}
		if c := m.Copy(); c == nil || c.Len() != 0 || len(slices.Collect(m.All())) != 0 {
			t.Errorf("rule 1: %v is copied as %v", m, c)
		}
	}
}

// run makes calls without a rule upon a map and upon a plain set, and tells whether they answered alike.
func run(m *Map, p plain, seed int64, turns int) bool {
	source := rand.New(rand.NewSource(seed))
	pick := func() int { return source.Intn(len(p)+6) - 3 }
	for range turns {
		a, b, in := pick(), pick(), source.Intn(2) == 0
		alike := true
		switch source.Intn(7) {
		case 0, 1:
			alike = put(m, a, in) == p.put(a, in)
		case 2:
			alike = fill(m, a, min(b, a+20), in) == p.fill(a, min(b, a+20), in)
		case 3:
			alike = m.CountRange(a, b) == p.count(a, b)
		case 4:
			alike = m.Next(a) == p.next(a)
		case 5:
			alike = m.Gap(a, b/8) == p.gap(a, b/8)
		case 6:
			alike = slices.Equal(slices.Collect(m.All()), p.numbers())
		}
		if !alike {
			return false
		}
	}
	return true
}

func TestP308MapsInTurn(t *testing.T) {
	var maps []*Map
	var sets []plain
	for _, n := range lengths() {
		maps, sets = append(maps, made(t, n)), append(sets, make(plain, n))
	}
	for turn := range 60 {
		for i := range maps {
			if !run(maps[i], sets[i], int64(turn*100+i), 20) {
				t.Fatalf("P308: the map of the length %d answers otherwise, in turn with others", len(sets[i]))
			}
		}
	}
	for i := range maps {
		same(t, "P308: in the end", maps[i], sets[i])
	}
}

func TestP308MapsSideBySide(t *testing.T) {
	alike := make([]bool, 8)
	var all sync.WaitGroup
	for w := range alike {
		m := made(t, 130)
		all.Go(func() { alike[w] = run(m, make(plain, 130), int64(w), 2000) })
	}
	all.Wait()
	if slices.Contains(alike, false) {
		t.Errorf("P308: maps side by side: %v", alike)
	}
}

// quickest is the least time that it took, of some tries: what else the computer does at that moment is left out.
func quickest(what func()) time.Duration {
	least := time.Hour
	for range 7 {
		start := time.Now()
		what()
		least = min(least, time.Since(start))
	}
	return max(least, time.Microsecond)
}

func TestP308OneNumberInALongMap(t *testing.T) {
	calls := map[string]func(m *Map, i int){
		"Set":   func(m *Map, i int) { m.Set(i) },
		"Clear": func(m *Map, i int) { m.Clear(i) },
		"Get":   func(m *Map, i int) { m.Get(i) },
	}
	for name, call := range calls {
		times := func(n int) time.Duration {
			m := made(t, n)
			return quickest(func() {
				for i := range 20000 {
					call(m, i*7919%n)
				}
			})
		}
		if short, long := times(64), times(api.MaxBits); long > 40*short {
			t.Errorf("P308: %s takes %v in a short map, %v in a long one", name, short, long)
		}
	}
}

// striped is the longest map, with every so manyth number out and the others in, or the other way round.
func striped(t *testing.T, step int, in bool) *Map {
	m := made(t, api.MaxBits)
	for i := range api.MaxBits {
		if i%step == 0 == in {
			m.Set(i)
		}
	}
	return m
}

func TestP308NoCallTakesMuchLongerThanAllBits(t *testing.T) {
	maps := map[string]*Map{
		"none": made(t, api.MaxBits), "all": striped(t, 1, true), "every second": striped(t, 2, true),
		"every 100th": striped(t, 100, true), "all but every 100th": striped(t, 100, false), "every 50000th": striped(t, 50000, true),
	}
	calls := map[string]func(m *Map){
		"Count":      func(m *Map) { m.Count() },
		"CountRange": func(m *Map) { m.CountRange(least, greatest) },
		"Next":       func(m *Map) { m.Next(least) },
		"Gap(1)":     func(m *Map) { m.Gap(least, 1) },
		"Gap(100)":   func(m *Map) { m.Gap(0, 100) },
		"Gap(60000)": func(m *Map) { m.Gap(0, 60000) },
		"Gap(Len/2)": func(m *Map) { m.Gap(0, api.MaxBits/2) },
		"All": func(m *Map) {
			for range m.All() {
				m.Len()
			}
		},
		"Copy":       func(m *Map) { m.Copy() },
		"SetRange":   func(m *Map) { m.Copy().SetRange(1, api.MaxBits) },
		"ClearRange": func(m *Map) { m.Copy().ClearRange(1, api.MaxBits) },
		"Reset":      func(m *Map) { m.Copy().Reset() },
	}
	for which, m := range maps {
		count := 0
		once := quickest(func() {
			for i := range api.MaxBits {
				if m.Get(i) {
					count++
				}
			}
		})
		for name, call := range calls {
			if took := quickest(func() { call(m) }); took > 30*once {
				t.Errorf("P308: %s of a map with %s takes %v; all bits are looked at in %v", name, which, took, once)
			}
		}
	}
}
