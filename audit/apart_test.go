package audit

import (
	"math/rand"
	"runtime"
	"runtime/debug"
	"slices"
	"sync"
	"testing"
	"time"

	"hearth/api"
)

// The dumps of spaces with long pasts: nothing is found, until words are poked; and then just these.
func TestP1607LongPasts(t *testing.T) {
	told := map[int]int{}
	for _, n := range []int{1, 3, 8, 20} {
		for seed := range int64(30) {
			x := &past{heap(t, n), rand.New(rand.NewSource(seed))}
			for turn := range 300 {
				x.turn()
				if turn > 200 && x.source.Intn(8) == 0 {
					x.poke()
				}
				if turn == 100 && seed%2 == 0 {
					x.h.Keep(nil)
				}
				if turn%7 > 0 {
					continue
				}
				d := x.h.Dump()
				got, want := Check(d), plainCheck(d)
				if !slices.Equal(got, want) {
					t.Fatalf("P1607: %d pages, seed %d, turn %d: %v, want %v", n, seed, turn, got, want)
				}
				if turn <= 200 && len(got) > 0 {
					t.Fatalf("P1607: %d pages, seed %d, turn %d: %v of a space without corruptions", n, seed, turn, got)
				}
				first := -1
				for _, f := range got {
					if f.What > 3 {
						t.Fatalf("P1607: %d pages, seed %d, turn %d: %v of a space", n, seed, turn, got)
					}
					if first < 0 && f.What != 2 {
						first = f.At
					}
					told[f.What]++
				}
				if wrong := x.h.Wrong(); wrong != first {
					t.Fatalf("P1607: %d pages, seed %d, turn %d: Wrong() is %d, Check tells %v", n, seed, turn, wrong, got)
				}
			}
		}
	}
	if told[1] < 300 || told[2] < 300 || told[3] < 300 {
		t.Errorf("what was told: %v", told)
	}
}

// What a space leaves where objects were freed that others refer to.
func TestP1607WhatWasFreed(t *testing.T) {
	told := 0
	for seed := range int64(60) {
		x := &past{heap(t, 10), rand.New(rand.NewSource(seed))}
		for range 150 {
			x.turn()
		}
		x.keep()
		d := x.h.Dump()
		got, want := Check(d), plainCheck(d)
		if !slices.Equal(got, want) {
			t.Fatalf("P1607: seed %d: %v, want %v", seed, got, want)
		}
		for _, f := range got {
			if f.What != 2 {
				t.Fatalf("P1607: seed %d: %v", seed, got)
			}
		}
		told += len(got)
	}
	if told < 300 {
		t.Errorf("%d wrong words were told", told)
	}
}

// Dumps that somebody has turned, by one thing and by more and more.
func TestP1601ToP1606TwistedDumps(t *testing.T) {
	told := map[int]int{}
	for _, n := range []int{1, 2, 5, 9} {
		for seed := range int64(150) {
			x := &past{heap(t, n), rand.New(rand.NewSource(seed))}
			for range 20 + x.source.Intn(150) {
				x.turn()
			}
			for range 6 {
				d := x.h.Dump()
				for range 6 {
					x.twist(&d)
					got, want := Check(d), plainCheck(d)
					if !slices.Equal(got, want) {
						t.Fatalf("P1601 to P1606: %d pages, seed %d: Check tells %v, want %v of %v", n, seed, got, want, d)
					}
					for _, f := range got {
						told[f.What]++
					}
				}
			}
		}
	}
	for what := 1; what <= 7; what++ {
		if told[what] < 1000 {
			t.Errorf("what was told: %v", told)
		}
	}
}

// Pages and blocks without any rule.
func TestP1602AndP1603StrangeDumps(t *testing.T) {
	source := rand.New(rand.NewSource(7))
	right := 0
	for range 60000 {
		n := 1 + source.Intn(6)
		d := api.Dump{Words: make([]int, 64*n), Serial: 9}
		for range n {
			p := api.Page{Kind: source.Intn(5) - source.Intn(2)}
			switch p.Kind {
			case 1:
				p.Class = source.Intn(10) - 1
			case 2:
				p.Run = source.Intn(5)
			}
			if source.Intn(30) == 0 {
				p.Class, p.Run = source.Intn(2), source.Intn(2)
			}
			d.Pages = append(d.Pages, p)
		}
		for p := range n {
			if source.Intn(4) == 0 {
				continue
			}
			b := api.Block{At: 64 * p, Kind: 3, Size: []int{1, 3, 5, 7, 9, 13, 17, 21, 33, 64, 65, 128, 129, 200}[source.Intn(14)], Serial: p + 1}
			if d.Pages[p].Kind == 2 {
				b.Size = max(33, 64*d.Pages[p].Run-source.Intn(2)*63)
			} else if d.Pages[p].Kind == 1 && d.Pages[p].Class >= 0 && d.Pages[p].Class < 8 {
				b.Size = sizes()[d.Pages[p].Class]
				b.At += b.Size * source.Intn(64/b.Size+1)
			}
			if source.Intn(8) == 0 {
				b.At += source.Intn(5)
			}
			d.Blocks = append(d.Blocks, b)
		}
		got, want := Check(d), plainCheck(d)
		if !slices.Equal(got, want) {
			t.Fatalf("P1602, P1603: Check tells %v, want %v of %v, %v", got, want, d.Pages, d.Blocks)
		}
		if !slices.ContainsFunc(got, func(f finding) bool { return f.What == 5 || f.What == 6 }) {
			right++
		}
	}
	if right < 500 {
		t.Errorf("%d dumps had no wrong page and no wrong block", right)
	}
}

// soon makes a call on a stack on which nothing can be deep, and tells a fault, if it takes far longer than going a few times over the greatest dump.
func soon(t *testing.T, call func()) {
	t.Helper()
	defer debug.SetMaxStack(debug.SetMaxStack(1 << 18))
	start := time.Now()
	call()
	if took := time.Since(start); took > 5*time.Second {
		t.Errorf("rule 1: a check has taken %v", took)
	}
}

// The greatest arena, full of small objects, right and then with nothing right at all.
func TestP1601GreatDumps(t *testing.T) {
	h := heap(t, 4096)
	last := null
	for h.Fits(2) {
		last = thing(t, h, 2, 0, 0, last)
	}
	d := h.Dump()
	soon(t, func() {
		if got := Check(d); len(got) != 0 {
			t.Errorf("P1607: %d findings", len(got))
		}
	})
	for i := range d.Words {
		d.Words[i] = 7
	}
	soon(t, func() {
		got := Check(d)
		if len(got) != 64*4096 {
			t.Fatalf("P1605: %d findings, want one of each word", len(got))
		}
		for i, f := range got {
			if f != (finding{At: i, What: 1 + i%2}) {
				t.Fatalf("P1605: finding %d is %v", i, f)
			}
		}
	})
	d.Blocks = nil
	soon(t, func() {
		if got := Check(d); len(got) != 32*4096+4096+1 {
			t.Errorf("P1606: %d findings, want one of each link and each page, and one of the head", len(got))
		}
	})
	for p := range d.Pages {
		d.Pages[p] = api.Page{Kind: 3}
	}
	soon(t, func() {
		if got := Check(d); len(got) != 4096 {
			t.Errorf("P1603: %d findings, want one of each page", len(got))
		}
	})
	d.Pages[0] = api.Page{Kind: 2, Run: greatest}
	tells(t, "P1603", d, finding{At: 0, What: 6})
}

// A list of blocks far longer than the arena has words.
func TestP1601ManyBlocks(t *testing.T) {
	_, d := pair(t)
	for i := range 2000000 {
		d.Blocks = append(d.Blocks, api.Block{At: -i, Kind: 1, Size: 3, Serial: i})
	}
	soon(t, func() {
		if got := Check(d); len(got) != 2000000 || got[0] != (finding{At: -1999999, What: 5}) || got[1999999] != (finding{At: 0, What: 5}) {
			t.Errorf("P1602: %d findings", len(got))
		}
	})
}

func TestP1608WhatIsHandedIn(t *testing.T) {
	x := &past{heap(t, 6), rand.New(rand.NewSource(3))}
	for range 150 {
		x.turn()
	}
	for range 60 {
		x.poke()
	}
	whole := x.h.Dump()
	whole.Words = append(whole.Words, 71, 72, 73)
	whole.Pages = append(whole.Pages, api.Page{Kind: 74}, api.Page{Kind: 75})
	whole.Blocks = append(whole.Blocks, api.Block{At: 76}, api.Block{At: 77}, api.Block{At: 78})
	old := clone(whole)
	d := whole
	d.Words, d.Pages, d.Blocks = d.Words[:len(d.Words)-3], d.Pages[:len(d.Pages)-2], d.Blocks[:len(d.Blocks)-3]
	d.Blocks[2].Serial = d.Blocks[1].Serial
	old.Blocks[2].Serial = old.Blocks[1].Serial
	got := Check(d)
	want := slices.Clone(got)
	if !sameDump(whole, old) {
		t.Errorf("P1608: Check has changed the dump, or its spare room")
	}
	if len(got) < 10 || !slices.Equal(got, plainCheck(d)) {
		t.Errorf("P1601: %v, want %v", got, plainCheck(d))
	}
	clear(d.Words)
	clear(d.Blocks)
	clear(d.Pages)
	if !slices.Equal(got, want) {
		t.Errorf("P1608: the answer hangs on the dump")
	}
}

func TestP1608NewMemory(t *testing.T) {
	_, d := pair(t)
	d.Words[0], d.Words[4] = 0, 0
	for _, x := range []api.Dump{d, {}, {Pages: make([]api.Page, 2)}} {
		got := Check(x)
		want := slices.Clone(got)
		got = append(got, finding{At: 70})
		for i := range got {
			got[i] = finding{At: -5, What: -6}
		}
		if again := Check(x); !slices.Equal(again, want) {
			t.Errorf("P1608: what Check has answered is kept: %v, want %v", again, want)
		}
	}
}

// One dump, looked over by many at once; and nobody is left behind.
func TestP1608SideBySide(t *testing.T) {
	x := &past{heap(t, 8), rand.New(rand.NewSource(5))}
	for range 200 {
		x.turn()
	}
	for range 30 {
		x.poke()
	}
	d := x.h.Dump()
	want := plainCheck(d)
	ahead := runtime.NumGoroutine()
	alike := make([]bool, 8)
	var workers sync.WaitGroup
	for w := range alike {
		workers.Go(func() {
			alike[w] = true
			for range 50 {
				alike[w] = alike[w] && slices.Equal(Check(d), want)
			}
		})
	}
	workers.Wait()
	if slices.Contains(alike, false) {
		t.Errorf("P1608: checks side by side: %v", alike)
	}
	for range 100 {
		if runtime.NumGoroutine() <= ahead {
			return
		}
		time.Sleep(10 * time.Millisecond)
	}
	t.Errorf("rule 6: %d goroutines are left, there were %d", runtime.NumGoroutine(), ahead)
}
