package layout

import (
	"math"
	"strings"

	"hearth/api"
)

// row is a line of the chapter's table: the numbers of parts that there are, the roles of the words that each object of the kind has behind its header, and the role of the others, of which there is one for so many parts.
type row struct {
	kind   int
	parts  []int
	roles  string
	others string
	each   int
}

func rows() []row {
	return []row{
		{1, upTo(0), "strong strong", "", 1},
		{2, upTo(0), "strong", "", 1},
		{3, upTo(1023), "", "strong", 1},
		{4, upTo(4096), "raw", "raw", 8},
		{5, upTo(0), "raw", "", 1},
		{6, upTo(64), "", "strong", 1},
		{7, upTo(0), "frame", "", 1},
		{8, upTo(0), "weak strong", "", 1},
		{9, upTo(0), "key value", "", 1},
		{10, upTo(0), "raw spine", "", 1},
		{11, upTo(128), "frame function raw raw", "strong", 1},
		{12, []int{4, 8, 16, 32, 64, 128, 256, 512}, "", "chain", 1},
		{13, upTo(0), "key value chain", "", 1},
	}
}

func upTo(last int) []int {
	var out []int
	for n := 0; n <= last; n++ {
		out = append(out, n)
	}
	return out
}

// roleNumbers are api's names of the roles that the table speaks of.
var roleNumbers = map[string]int{
	"strong":   api.RoleStrong,
	"weak":     api.RoleWeak,
	"key":      api.RoleKey,
	"value":    api.RoleVal,
	"frame":    api.RoleFrame,
	"function": api.RoleFunc,
	"spine":    api.RoleSpine,
	"chain":    api.RoleChain,
	"raw":      api.RoleRaw,
}

// object is an object of n parts as the roles of its words, from the header on, which has none.
func (r row) object(n int) []int {
	out := []int{0}
	for _, name := range strings.Fields(r.roles) {
		out = append(out, roleNumbers[name])
	}
	for ; n > 0; n -= r.each {
		out = append(out, roleNumbers[r.others])
	}
	return out
}

// table is the whole: by kind and parts the object.
func table() map[[2]int][]int {
	out := map[[2]int][]int{}
	for _, r := range rows() {
		for _, n := range r.parts {
			out[[2]int{r.kind, n}] = r.object(n)
		}
	}
	return out
}

// bySize is the table by kind and size.
func bySize() map[[2]int][]int {
	out := map[[2]int][]int{}
	for x, object := range table() {
		out[[2]int{x[0], len(object)}] = object
	}
	return out
}

// far are numbers that are no kind, no number of parts, no size and no word, some of which come out right if they are cut to fewer bits, or wrapped by a sum or a product.
func far() []int {
	out := []int{math.MaxInt, math.MaxInt - 1, math.MinInt, math.MinInt + 1}
	for _, shift := range []int{16, 31, 32, 58, 59, 60, 61, 62, 63} {
		for _, low := range []int{0, 1, 2, 3, 4, 5, 9, 10, 66, 513, 514} {
			out = append(out, 1<<shift+low, -1<<shift+low, -1<<shift-low)
		}
	}
	return out
}

// noKinds are the numbers around the kinds, and far ones.
func noKinds() []int {
	out := far()
	for kind := -40; kind <= 300; kind++ {
		if kind < 1 || kind > 13 {
			out = append(out, kind)
		}
	}
	return out
}
