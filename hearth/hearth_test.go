package hearth

import (
	"strings"
	"testing"
)

// The chapter's example.
func TestExample(t *testing.T) {
	const text = "program p\n|func 0 0 0\n|fix 5\n|return\nrun p\ncode p\nforce 1\nrun p\nsame p\nx\n"
	plays(t, "the example", text, lines("done 5 steps 2 collections 0", "bytes 14 6874680100000100000002010a13", "done 5 steps 2 collections 1", "same 3", "error 100"))
	plays(t, "the example", strings.TrimSuffix(text, "\n"), plainPlay(text))
}

func TestP2601Lines(t *testing.T) {
	for _, x := range [][2]string{
		{"", ""}, {"\n", ""}, {"\n\n\n", ""},
		{"x", "error 100\n"}, {"x\n", "error 100\n"}, {"\nx", "error 100\n"}, {"x\n\n", "error 100\n"},
		{"x\nx", "error 100\nerror 100\n"}, {"x\nx\n", "error 100\nerror 100\n"}, {"x\n\n\nx\n", "error 100\nerror 100\n"},
		{"x\r\n", "error 100\n"}, {"\r\n", "error 100\n"}, {"x\ry\n", "error 100\n"}, {"x\x00y", "error 100\n"}, {"\x00", "error 100\n"}, {"\xff\n", "error 100\n"},
		{"x\u2028x\u0085x\vx\fx", "error 100\n"},
	} {
		plays(t, "P2601", x[0], x[1])
		plainly(t, "P2601", x[0])
	}
	five := main("p", "fix 5;return")
	plays(t, "P2601", five+"value p", "5\n")
	plays(t, "P2601", five+"value p\n\nvalue p\nvalue p\n", "5\n5\n5\n")
	plays(t, "P2601", five, "")
	plays(t, "P2601", strings.TrimSuffix(five, "\n"), "")
}

// A text may have 1048576 bytes and 100000 lines, and not one more.
func TestP2601Limits(t *testing.T) {
	remark := func(bytes int, end string) string { return "#" + strings.Repeat("x", bytes-1-len(end)) + end }
	plays(t, "P2601", remark(1<<20, ""), "")
	plays(t, "P2601", remark(1<<20, "\n"), "")
	plays(t, "P2601", remark(1<<20, "\nx"), "error 100\n")
	plays(t, "P2601", remark(1<<20+1, ""), "error 2\n")
	plays(t, "P2601", remark(1<<20+1, "\n"), "error 2\n")
	plays(t, "P2601", remark(1<<20+1, "\nx"), "error 2\n")
	plays(t, "P2601", strings.Repeat("\n", 100000), "")
	plays(t, "P2601", strings.Repeat("\n", 100000)+"x", "error 2\n")
	plays(t, "P2601", strings.Repeat("\n", 100001), "error 2\n")
	plays(t, "P2601", strings.Repeat("\n", 99999)+"x", "error 100\n")
	plays(t, "P2601", strings.Repeat("\n", 99999)+"x\n", "error 100\n")
	plays(t, "P2601", strings.Repeat("x\n", 100000), strings.Repeat("error 100\n", 100000))
	plays(t, "P2601", strings.Repeat("x\n", 100000)+"x", "error 2\n")
	plays(t, "P2601", "x\n"+strings.Repeat("\n", 100000), "error 2\n")
	plays(t, "P2601", strings.Repeat("\n", 1<<20), "error 2\n")
	plays(t, "P2601", strings.Repeat("\n", 1<<20+1), "error 2\n")
	plays(t, "P2601", strings.Repeat("x", 1<<20), "error 100\n")
	plays(t, "P2601", strings.Repeat(" ", 1<<20), "error 100\n")
}
