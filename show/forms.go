package show

import (
	"strconv"
	"strings"

	"hearth/api"
)

// immediates are the forms of the immediates, by their codes.
var immediates = [...]string{
	api.ImmNil:     "()",
	api.ImmFalse:   "#f",
	api.ImmTrue:    "#t",
	api.ImmVoid:    "#!void",
	api.ImmBroken:  "#!broken",
	api.ImmUnbound: "#!unbound",
}

// joined is all pieces, one behind the other.
func joined(pieces ...string) string { return strings.Join(pieces, "") }

// hex is a number in hexadecimal digits, behind as many zeros as make them so many.
func hex(n uint64, digits int) string {
	s := strings.ToUpper(strconv.FormatUint(n, 16))
	return joined(strings.Repeat("0", max(0, digits-len(s))), s)
}

// simple is the form of a valid value that is no reference.
func simple(v api.Value) string {
	switch v.Kind {
	case api.ValFix:
		return strconv.Itoa(v.N)
	case api.ValChar:
		return char(rune(v.N))
	}
	return immediates[v.N]
}

// printed tells whether a char can stand in a text as it is.
func printed(r rune) bool { return r >= ' ' && r <= '~' }

func char(r rune) string {
	if printed(r) && r != ' ' {
		return joined(`#\`, string(r))
	}
	return joined(`#\x`, hex(uint64(r), 1))
}

// leaf is the form of a node that is told without what it holds; of a container it is none.
func leaf(node api.Node) string {
	switch node.Kind {
	case api.KindPair, api.KindBox, api.KindVector:
		return ""
	case api.KindText:
		return quoted(node.Raw)
	case api.KindFlo:
		return joined("#fl:", hex(uint64(raw(node)), 16))
	case api.KindClosure:
		return joined("#<closure ", strconv.Itoa(raw(node)), ">")
	case api.KindCont:
		return "#<continuation>"
	case api.KindWeak:
		return "#<weak>"
	case api.KindEph:
		return "#<ephemeron>"
	case api.KindTable:
		return "#<table>"
	case api.KindFrame:
		return "#<frame>"
	}
	return "#<object>"
}

// raw is a node's first raw number, 0 where it has none.
func raw(node api.Node) int {
	if len(node.Raw) == 0 {
		return 0
	}
	return node.Raw[0]
}

// quoted is a text between quotes.
func quoted(raw []int) string {
	pieces := []string{`"`}
	for _, n := range raw {
		pieces = append(pieces, escaped(byte(n)))
	}
	return joined(append(pieces, `"`)...)
}

func escaped(b byte) string {
	switch r := rune(b); {
	case !printed(r):
		return joined(`\x`, hex(uint64(b), 2), ";")
	case r == '"', r == '\\':
		return joined(`\`, string(r))
	default:
		return string(r)
	}
}
