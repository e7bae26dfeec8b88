package hash

import (
	"math/big"
	"math/rand"

	"hearth/api"
)

const (
	greatest = 1<<63 - 1
	least    = -1 << 63
)

// wild are ints of every size, around zero and around each power of two.
func wild() []int {
	out := []int{0, greatest, least}
	for bit := 0; bit < 63; bit++ {
		p := 1 << bit
		for _, d := range []int{-1, 0, 1} {
			out = append(out, p+d, -p-d)
		}
	}
	return out
}

// more adds numbers to wild's that stand in no row.
func more() []int {
	r := rand.New(rand.NewSource(11))
	out := wild()
	for range 100 {
		out = append(out, int(r.Uint64()), r.Intn(5000)-2500)
	}
	return out
}

// keyKinds are the kinds of values, and others.
func keyKinds() []int {
	return []int{1, 2, 3, 4, 0, 5, 6, -1, -2, 1 << 32, 1<<32 + 2, -1 << 32, least, least + 2, greatest}
}

// spines are the heads that there are, as the chapter counts them up.
func spines() []int { return []int{4, 8, 16, 32, 64, 128, 256, 512} }

// stands tells whether n is one of the list.
func stands(list []int, n int) bool {
	for _, x := range list {
		if x == n {
			return true
		}
	}
	return false
}

// plainOf reckons a hash with numbers that have no width.
func plainOf(k api.Value, serial int) int {
	n := k.N
	if k.Kind == 2 {
		n = serial
	}
	byNumber, _ := new(big.Int).SetString("11400714819323198485", 10)
	byKind, _ := new(big.Int).SetString("14029467366897019727", 10)
	x := new(big.Int).Mul(big.NewInt(int64(n)), byNumber)
	x.Add(x, new(big.Int).Mul(big.NewInt(int64(k.Kind)), byKind))
	x.Mod(x, new(big.Int).Exp(big.NewInt(2), big.NewInt(64), nil))
	high, low := new(big.Int).QuoRem(x, big.NewInt(4294967296), new(big.Int))
	return int(new(big.Int).Xor(high, low).Int64())
}

// plainSlot goes by the remainder that is not below 0.
func plainSlot(h, capacity int) int {
	if !stands(spines(), capacity) {
		return -1
	}
	rest := h % capacity
	if rest < 0 {
		rest += capacity
	}
	return rest
}

// plainHeads has the next of the heads that there are.
func plainHeads(capacity int) int {
	if capacity == 0 {
		return 4
	}
	for i, n := range spines()[:7] {
		if n == capacity {
			return spines()[i+1]
		}
	}
	return 0
}

// plainGrows holds a count against the chapter's bound.
func plainGrows(count, capacity int) bool {
	if capacity == 0 {
		return true
	}
	for _, n := range spines()[:7] {
		if n == capacity {
			return count >= n+n
		}
	}
	return false
}
