package hash

import (
	"testing"

	"hearth/api"
)

func TestP1101OfRows(t *testing.T) {
	for _, r := range []struct {
		kind, n, serial, want int
	}{
		{api.ValFix, 0, 0, 0xC2B2AE3D ^ 0x27D4EB4F},
		{api.ValFix, 1, 0, 0x60EA27F6 ^ 0xA71F6764},
		{api.ValFix, 0, 1, 0xC2B2AE3D ^ 0x27D4EB4F}, // the serial of no reference is nothing
		{api.ValRef, 1, 0, 0x85655C7A ^ 0x4FA9D69E}, // nor is a reference's place
		{api.ValRef, 0, 1, 0x239CD633 ^ 0xCEF452B3},
		{0, 0, 7, 0},
		{0, 1, 7, 0x9E3779B9 ^ 0x7F4A7C15},
		{0, -1, 7, 0x61C88646 ^ 0x80B583EB},
		{-1, 0, 7, 0x3D4D51C2 ^ 0xD82B14B1},
	} {
		k := api.Value{Kind: r.kind, N: r.n}
		if got := Of(k, r.serial); got != r.want {
			t.Errorf("P1101: Of(%v, %d) = %#x, want %#x", k, r.serial, got, r.want)
		}
	}
}

func TestP1101OfEveryWidth(t *testing.T) {
	numbers := more()
	for _, kind := range keyKinds() {
		for i, n := range numbers {
			serial := numbers[(i*7+3)%len(numbers)]
			k := api.Value{Kind: kind, N: n}
			if got, want := Of(k, serial), plainOf(k, serial); got != want {
				t.Errorf("P1101: Of(%v, %d) = %#x, want %#x", k, serial, got, want)
			}
		}
	}
}

func TestP1101OfIsWithinItsBounds(t *testing.T) {
	top := false
	for _, kind := range keyKinds() {
		for _, n := range more() {
			h := Of(api.Value{Kind: kind, N: n}, n)
			if h < 0 || h > 4294967295 {
				t.Errorf("P1101: Of({%d %d}, %d) = %d", kind, n, n, h)
			}
			top = top || h >= 1<<31
		}
	}
	if !top {
		t.Error("P1101: no hash has the highest bit")
	}
}

func TestP1101PlacesAreNothing(t *testing.T) {
	for _, serial := range wild() {
		want := Of(api.Value{Kind: api.ValRef}, serial)
		for _, at := range wild() {
			if got := Of(api.Value{Kind: api.ValRef, N: at}, serial); got != want {
				t.Errorf("P1101: of the serial %d at %d: %d, want %d", serial, at, got, want)
			}
		}
	}
}

func TestP1101SerialsAreOfReferencesAlone(t *testing.T) {
	for _, kind := range keyKinds() {
		if kind == api.ValRef {
			continue
		}
		k := api.Value{Kind: kind, N: 5}
		want := Of(k, 0)
		for _, serial := range wild() {
			if got := Of(k, serial); got != want {
				t.Errorf("P1101: Of(%v, %d) = %d, want %d", k, serial, got, want)
			}
		}
	}
}

func TestP1102SlotOfEverySmallSpine(t *testing.T) {
	for capacity := -1100; capacity <= 1100; capacity++ {
		for _, h := range []int{-1025, -513, -5, -4, -1, 0, 1, 3, 4, 5, 7, 8, 511, 512, 513, 1 << 31, 1<<32 - 1} {
			if got, want := Slot(h, capacity), plainSlot(h, capacity); got != want {
				t.Errorf("P1102: Slot(%d, %d) = %d, want %d", h, capacity, got, want)
			}
		}
	}
}

func TestP1102SlotOfEveryHash(t *testing.T) {
	for _, capacity := range append(spines(), 0, 3, 6, 1024) {
		for _, h := range more() {
			if got, want := Slot(h, capacity), plainSlot(h, capacity); got != want {
				t.Errorf("P1102: Slot(%d, %d) = %d, want %d", h, capacity, got, want)
			}
		}
	}
}

func TestP1102SlotOfWildSpines(t *testing.T) {
	for _, capacity := range more() {
		for _, h := range []int{-1, 0, 5, greatest, least} {
			if got, want := Slot(h, capacity), plainSlot(h, capacity); got != want {
				t.Errorf("P1102: Slot(%d, %d) = %d, want %d", h, capacity, got, want)
			}
		}
	}
}

func TestP1102EveryHeadIsGoneTo(t *testing.T) {
	for _, capacity := range spines() {
		met := make([]int, capacity)
		for h := -capacity; h < capacity; h++ {
			met[Slot(h, capacity)]++
		}
		for i, n := range met {
			if n != 2 {
				t.Errorf("P1102: of %d hashes %d go to the head %d of %d", 2*capacity, n, i, capacity)
			}
		}
	}
}

func TestP1103HeadsOfEverySmallSpine(t *testing.T) {
	for capacity := -1100; capacity <= 1100; capacity++ {
		if got, want := Heads(capacity), plainHeads(capacity); got != want {
			t.Errorf("P1103: Heads(%d) = %d, want %d", capacity, got, want)
		}
	}
}

func TestP1103HeadsOfWildSpines(t *testing.T) {
	for _, capacity := range more() {
		if got, want := Heads(capacity), plainHeads(capacity); got != want {
			t.Errorf("P1103: Heads(%d) = %d, want %d", capacity, got, want)
		}
	}
}

func TestP1103HeadsGoUpToTheGreatest(t *testing.T) {
	capacity := 0
	for i, want := range spines() {
		capacity = Heads(capacity)
		if capacity != want || Slot(0, capacity) != 0 {
			t.Errorf("P1103: the spine %d has %d heads, want %d", i, capacity, want)
		}
	}
	if capacity != api.MaxCapacity || Heads(capacity) != 0 {
		t.Errorf("P1103: behind %d heads there are %d", capacity, Heads(capacity))
	}
}

func TestP1104GrowsOfEverySmallSpine(t *testing.T) {
	for capacity := -1100; capacity <= 1100; capacity++ {
		twice := 2 * capacity
		for _, count := range []int{least, twice - 2, twice - 1, twice, twice + 1, capacity, 0, 5000, greatest} {
			if got, want := Grows(count, capacity), plainGrows(count, capacity); got != want {
				t.Errorf("P1104: Grows(%d, %d) = %v", count, capacity, got)
			}
		}
	}
}

func TestP1104GrowsOfWildNumbers(t *testing.T) {
	for _, capacity := range append(more(), spines()...) {
		for _, count := range more() {
			if got, want := Grows(count, capacity), plainGrows(count, capacity); got != want {
				t.Errorf("P1104: Grows(%d, %d) = %v", count, capacity, got)
			}
		}
	}
}

func TestP1104WhatGrowsHasMoreHeads(t *testing.T) {
	for _, capacity := range more() {
		if grows := Grows(greatest, capacity); grows != (Heads(capacity) > 0) {
			t.Errorf("P1104: Grows(.., %d) is %v, and there are %d heads", capacity, grows, Heads(capacity))
		}
	}
}

func TestExamples(t *testing.T) {
	for _, r := range [][3]int{{13, 8, 5}, {-1, 4, 3}, {5, 6, -1}, {5, 1024, -1}, {5, 0, -1}} {
		if got := Slot(r[0], r[1]); got != r[2] {
			t.Errorf("P1102: Slot(%d, %d) = %d, want %d", r[0], r[1], got, r[2])
		}
	}
	for _, r := range [][2]int{{0, 4}, {4, 8}, {256, 512}, {512, 0}, {5, 0}, {-4, 0}} {
		if got := Heads(r[0]); got != r[1] {
			t.Errorf("P1103: Heads(%d) = %d, want %d", r[0], got, r[1])
		}
	}
	for _, r := range []struct {
		count, capacity int
		want            bool
	}{{0, 0, true}, {-9, 0, true}, {7, 4, false}, {8, 4, true}, {5000, 512, false}, {99, 5, false}} {
		if got := Grows(r.count, r.capacity); got != r.want {
			t.Errorf("P1104: Grows(%d, %d) = %v", r.count, r.capacity, got)
		}
	}
	zero := api.Value{Kind: api.ValFix}
	if Of(zero, 5) != Of(zero, 6) {
		t.Error("P1101: a fixnum's hash hangs on the serial")
	}
	if Of(api.Value{Kind: api.ValRef, N: 64}, 5) != Of(api.Value{Kind: api.ValRef, N: 128}, 5) {
		t.Error("P1101: a reference's hash hangs on its place")
	}
}
