package code

import (
	"bytes"
	"math/rand"
	"testing"

	"hearth/api"
)

// asPlain tells a fault, if Read answers otherwise than the plain words.
func asPlain(t testing.TB, promise string, row []byte) {
	t.Helper()
	kept := bytes.Clone(row)
	p, at, errno := plainRead(row)
	reads(t, promise, row, p, at, errno)
	if !bytes.Equal(row, kept) {
		t.Errorf("%s: Read has turned the bytes", promise)
	}
}

// many is a program with a part of every sort.
func many() api.Program {
	return api.Program{
		Globals: 64,
		Texts:   [][]byte{[]byte("one"), {}, bytes.Repeat([]byte{0x80}, 130)},
		Funcs: []api.Func{
			{Code: []api.Ins{{Op: 1, A: 5}, {Op: 1, A: -300}, {Op: 1, A: mostFix}, {Op: 5, A: -2}, {Op: 14, A: 2097151}, {Op: 75}}},
			{Params: 8, Locals: 64, Captures: 64},
			{Params: 1, Code: []api.Ins{{Op: 17, A: 128}, {Op: 19}}},
		},
	}
}

func TestP1805Refused(t *testing.T) {
	good := []byte{0x68, 0x74, 0x68, 1, 0, 0, 1, 0, 0, 0, 2, 1, 10, 19}
	refused(t, "P1805", nil, 0, api.ErrEnd)
	refused(t, "P1805", []byte{}, 0, api.ErrEnd)
	refused(t, "P1805", []byte{0x68, 0x74}, 2, api.ErrEnd)
	refused(t, "P1805", []byte{0x68, 0x74, 0}, 2, api.ErrBytes)
	refused(t, "P1805", []byte{0x68, 0x74, 0x68, 1, 0x41}, 4, api.ErrBytes)
	refused(t, "P1805", []byte{0x68, 0x74, 0x68, 1, 0x80, 0}, 4, api.ErrBytes)
	refused(t, "P1805", []byte{0x68, 0x74, 0x68, 1, 0x80, 0, 0, 1, 0, 0, 0, 0}, 4, api.ErrBytes)
	refused(t, "P1805", []byte{0x68, 0x74, 0x68, 1, 0x80}, 5, api.ErrEnd)
	refused(t, "P1805", []byte{0x68, 0x74, 0x68, 1, 0, 0, 0}, 6, api.ErrBytes)
	refused(t, "P1805", []byte{0x68, 0x74, 0x68, 1, 0, 0, 1, 0, 0, 0, 1, 0x17}, 11, api.ErrBytes)
	refused(t, "P1805", join(good, []byte{0}), 14, api.ErrBytes)
	refused(t, "P1805", join(good, good), 14, api.ErrBytes)
}

// Each of the first bytes is a part by itself, so a wrong one is told ahead of the end.
func TestP1805FirstBytes(t *testing.T) {
	first := []byte{0x68, 0x74, 0x68, 1}
	for i := range first {
		for b := range 256 {
			if byte(b) != first[i] {
				refused(t, "P1805", join(first[:i], []byte{byte(b)}), i, api.ErrBytes)
				refused(t, "P1805", join(first[:i], []byte{byte(b)}, first), i, api.ErrBytes)
			}
		}
	}
}

func TestP1805Long(t *testing.T) {
	row, _ := plainWrite(sized(65536))
	refused(t, "P1805", join(row, []byte{0}), 0, api.ErrLong)
	refused(t, "P1805", make([]byte, 65537), 0, api.ErrLong)
	refused(t, "P1805", make([]byte, 1<<20), 0, api.ErrLong)
	refused(t, "P1805", make([]byte, 65536), 0, api.ErrBytes)
	refused(t, "P1805", row[:65535], 65535, api.ErrEnd)
	refused(t, "P1805", join(head(0), make([]byte, 65536-11)), 11, api.ErrBytes)
	refused(t, "P1805", join(head(0), make([]byte, 65537-11)), 0, api.ErrLong)
}

// Of a program the bytes up to anywhere end too early; all of them and one more are too many.
func TestP1805Prefixes(t *testing.T) {
	source := rand.New(rand.NewSource(1))
	for turn := range 40 {
		p := someProgram(source)
		if turn == 0 {
			p = many()
		}
		row, _ := plainWrite(p)
		for n := range row {
			refused(t, "P1805", row[:n], n, api.ErrEnd)
		}
		for _, b := range []byte{0, 1, 127, 128, 255} {
			refused(t, "P1805", join(row, []byte{b}), len(row), api.ErrBytes)
		}
	}
}

// numberPlaces is where numbers begin in the bytes of a program: the bytes up to there, and the greatest that may stand there.
func numberPlaces() map[string]struct {
	row  []byte
	most int
} {
	type place = struct {
		row  []byte
		most int
	}
	return map[string]place{
		"globals":   {head(0)[:4], 64},
		"texts":     {head(0)[:5], 64},
		"text":      {join(head(0)[:5], []byte{1}), 4096},
		"next text": {join(head(0)[:5], []byte{2, 1, 65}), 4096},
		"functions": {head(0)[:6], 64},
		"params":    {head(0)[:7], 8},
		"locals":    {head(0)[:8], 64},
		"captures":  {head(0)[:9], 64},
		"code":      {head(0)[:10], 4096},
		"fix":       {join(head(2), []byte{1}), 1<<61 - 1},
		"jump":      {join(head(2), []byte{11, 14}), 2097151},
		"char":      {join(head(9), []byte{2}), 2097151},
	}
}

// A number of nine bytes and more without a last one, and one that ends too early.
func TestP1805NumbersWithoutEnd(t *testing.T) {
	for name, x := range numberPlaces() {
		at := len(x.row)
		for n := range 20 {
			for _, b := range []byte{0x80, 0x81, 0xff} {
				row := join(x.row, bytes.Repeat([]byte{b}, n))
				if n < 9 {
					refused(t, "P1805 "+name, row, len(row), api.ErrEnd)
				} else {
					refused(t, "P1805 "+name, row, at, api.ErrBytes)
					refused(t, "P1805 "+name, join(row, []byte{0}), at, api.ErrBytes)
					refused(t, "P1805 "+name, join(row, []byte{1}), at, api.ErrBytes)
				}
			}
		}
	}
}

// A last byte that is 0 is none, be the number in its range or not.
func TestP1805NumbersWithAZeroAhead(t *testing.T) {
	for name, x := range numberPlaces() {
		at := len(x.row)
		for n := 1; n < 9; n++ {
			for _, b := range []byte{0x80, 0x81, 0xff} {
				row := join(x.row, bytes.Repeat([]byte{b}, n), []byte{0})
				refused(t, "P1805 "+name, row, at, api.ErrBytes)
				refused(t, "P1805 "+name, join(row, make([]byte, 20)), at, api.ErrBytes)
			}
		}
	}
}

// In a place the numbers up to the greatest one are taken: then something else comes, or is lacking; those above it are refused there.
func TestP1805NumbersInTheirRange(t *testing.T) {
	for name, x := range numberPlaces() {
		at := len(x.row)
		for i := range 64 {
			for d := uint64(0); d < 3; d++ {
				n := (uint64(1)<<i + d - 1) & greatest
				row := join(x.row, plainNumber(n))
				asPlain(t, "P1805 "+name, row)
				if _, place, errno := Read(row); (errno == api.ErrBytes && place == at) != (n > uint64(x.most) || n == 0 && name == "functions") {
					t.Errorf("P1805: %s %d: %d, %v", name, n, place, errno)
				}
			}
		}
		refused(t, "P1805 "+name, join(x.row, plainNumber(uint64(x.most)+1)), at, api.ErrBytes)
	}
}

// A fix that is no fixnum: the least such number, the greatest one of nine bytes.
func TestP1805NoFixnum(t *testing.T) {
	for _, row := range [][]byte{
		{0x80, 0x80, 0x80, 0x80, 0x80, 0x80, 0x80, 0x80, 0x20},
		{0x81, 0x80, 0x80, 0x80, 0x80, 0x80, 0x80, 0x80, 0x20},
		{0xff, 0xff, 0xff, 0xff, 0xff, 0xff, 0xff, 0xff, 0x7f},
		{0xfe, 0xff, 0xff, 0xff, 0xff, 0xff, 0xff, 0xff, 0x3f},
	} {
		refused(t, "P1805", join(head(1), []byte{1}, row), 12, api.ErrBytes)
	}
}

func TestP1805Ops(t *testing.T) {
	for b := range 256 {
		row := join(head(1), []byte{byte(b)})
		if plainSort(b) == '?' {
			refused(t, "P1805", row, 11, api.ErrBytes)
			refused(t, "P1805", join(row, []byte{0}), 11, api.ErrBytes)
		} else if plainSort(b) != '0' {
			refused(t, "P1805", row, 12, api.ErrEnd)
		}
	}
}

// A text, or a float, of which too little is there; of a text of no bytes nothing is lacking.
func TestP1805ShortParts(t *testing.T) {
	for n := range 5 {
		row := join(head(0)[:5], []byte{1, 5}, bytes.Repeat([]byte{255}, n))
		refused(t, "P1805", row, len(row), api.ErrEnd)
	}
	refused(t, "P1805", join(head(0)[:5], []byte{1, 0x80, 0x20}, make([]byte, 4095)), 8+4095, api.ErrEnd)
	for n := range 8 {
		row := join(head(1), []byte{5}, bytes.Repeat([]byte{255}, n))
		refused(t, "P1805", row, len(row), api.ErrEnd)
	}
	reads(t, "P1805", join(head(0)[:5], []byte{2, 0, 0, 1, 0, 0, 0, 0}), api.Program{Texts: make([][]byte, 2), Funcs: make([]api.Func, 1)}, 0, api.OK)
	refused(t, "P1805", join(head(0)[:5], []byte{2, 0, 0}), 8, api.ErrEnd)
}

// Every two bytes behind any number of good ones.
func TestP1805EveryTail(t *testing.T) {
	row, _ := plainWrite(many())
	for n := range 5 {
		for a := range 256 {
			asPlain(t, "P1805", join(head(1)[:n+7], []byte{byte(a)}))
			for b := range 256 {
				asPlain(t, "P1805", join(head(1)[:n+7], []byte{byte(a), byte(b)}))
			}
		}
	}
	for i := range row {
		for b := range 256 {
			turned := bytes.Clone(row)
			turned[i] = byte(b)
			asPlain(t, "P1805", turned)
		}
	}
}

// marred is a row with a few bytes turned, put in, or taken away.
func marred(source *rand.Rand, row []byte) []byte {
	row = bytes.Clone(row)
	edges := []byte{0, 1, 5, 14, 22, 23, 29, 30, 63, 64, 65, 75, 76, 127, 128, 129, 255}
	for range 1 + source.Intn(3) {
		i := source.Intn(len(row) + 1)
		b := edges[source.Intn(len(edges))]
		if source.Intn(3) == 0 {
			b = byte(source.Intn(256))
		}
		switch source.Intn(5) {
		case 0:
			row = join(row[:i], []byte{b}, row[i:])
		case 1:
			row = join(row[:i], row[min(i+1, len(row)):])
		case 2:
			row = join(row[:i], bytes.Repeat([]byte{b}, source.Intn(12)), row[i:])
		default:
			row = join(row[:i], []byte{b}, row[min(i+1, len(row)):])
		}
	}
	return row
}

func TestP1805MarredRows(t *testing.T) {
	source := rand.New(rand.NewSource(2))
	told := map[api.Errno]int{}
	for range 60000 {
		row, _ := plainWrite(someProgram(source))
		row = marred(source, row)
		asPlain(t, "P1805", row)
		_, _, errno := Read(row)
		told[errno]++
	}
	for _, errno := range []api.Errno{api.OK, api.ErrBytes, api.ErrEnd} {
		if told[errno] < 1000 {
			t.Errorf("P1805: %v was told %d times alone", errno, told[errno])
		}
	}
}
