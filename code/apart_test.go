package code

import (
	"bytes"
	"errors"
	"math/rand"
	"slices"
	"sync"
	"testing"

	"hearth/api"
)

func TestP1806ThereAndBack(t *testing.T) {
	source := rand.New(rand.NewSource(3))
	for range 20000 {
		p := someProgram(source)
		row, errno := plainWrite(p)
		if errno != 0 {
			t.Fatalf("P1806: %v can't be written", p)
		}
		stands(t, "P1806", p, row)
		b, _ := Write(p)
		if q, at, errno := Read(b); at != 0 || errno != api.OK || !alike(p, q) {
			t.Fatalf("P1806: %v comes back as %v, %d, %v", p, q, at, errno)
		}
	}
}

func TestP1806BackAndThere(t *testing.T) {
	source := rand.New(rand.NewSource(4))
	taken := 0
	for range 60000 {
		row, _ := plainWrite(someProgram(source))
		row = marred(source, row)
		p, _, errno := Read(row)
		if errno != api.OK {
			continue
		}
		taken++
		if b, errno := Write(p); errno != api.OK || !bytes.Equal(b, row) {
			t.Fatalf("P1806: %s comes back as %s, %v", short(row), short(b), errno)
		}
	}
	if taken < 1000 {
		t.Errorf("P1806: %d rows were taken alone", taken)
	}
}

// Unlike programs have unlike bytes.
func TestP1806OneRowEach(t *testing.T) {
	source := rand.New(rand.NewSource(5))
	seen := map[string]api.Program{}
	for range 20000 {
		p := someProgram(source)
		b, _ := Write(p)
		if q, before := seen[string(b)]; before && !alike(p, q) {
			t.Fatalf("P1806: %v and %v have one row", p, q)
		}
		seen[string(b)] = p
	}
}

func TestP1807AgainAndAgain(t *testing.T) {
	p := many()
	row, _ := plainWrite(p)
	for range 20 {
		stands(t, "P1807", p, row)
		misshapen(t, "P1807", api.Program{})
		refused(t, "P1807", row[:len(row)-1], len(row)-1, api.ErrEnd)
		refused(t, "P1807", row[1:], 0, api.ErrBytes)
		writes(t, "P1807", sized(65537), nil, api.ErrLong)
	}
}

func TestP1807SideBySide(t *testing.T) {
	good := make([]bool, 8)
	var all sync.WaitGroup
	for w := range good {
		all.Go(func() {
			source := rand.New(rand.NewSource(int64(w)))
			good[w] = true
			for range 2000 {
				p := someProgram(source)
				want, _ := plainWrite(p)
				b, _ := Write(p)
				q, _, _ := Read(b)
				_, at, errno := Read(b[:len(b)-1])
				good[w] = good[w] && bytes.Equal(b, want) && alike(p, q) && at == len(b)-1 && errno == api.ErrEnd
			}
		})
	}
	all.Wait()
	if slices.Contains(good, false) {
		t.Errorf("P1807: side by side: %v", good)
	}
}

// What is handed in is not kept, and what is answered is nobody else's.
func TestP1807NewMemory(t *testing.T) {
	p := many()
	row, _ := plainWrite(p)
	given := bytes.Clone(row)
	got, _, _ := Read(given)
	for i := range given {
		given[i] = 0xee
	}
	if !alike(got, p) {
		t.Errorf("P1807: the program shares memory with the bytes that were read")
	}
	for _, text := range got.Texts {
		_ = append(text, 0xee, 0xee)
		for i := range text {
			text[i] = 0xee
		}
	}
	for i, f := range got.Funcs {
		_ = append(f.Code, api.Ins{Op: 99})
		got.Funcs[i].Params = 77
	}
	stands(t, "P1807", p, row)

	program := many()
	b, _ := Write(program)
	_ = append(b, 0xee)
	for i := range b {
		b[i] = 0xee
	}
	if !alike(program, p) {
		t.Errorf("P1807: the bytes share memory with the program that was written")
	}
	stands(t, "P1807", p, row)
}

// The texts and the codes of one answer lie apart: what is written behind one does not come into the next.
func TestP1807ListsApart(t *testing.T) {
	p := many()
	row, _ := plainWrite(p)
	got, _, _ := Read(row)
	for _, text := range got.Texts {
		_ = append(text, bytes.Repeat([]byte{0xee}, 300)...)
		fill(text[:cap(text)][len(text):], 0xee)
	}
	for _, f := range got.Funcs {
		fill(f.Code[:cap(f.Code)][len(f.Code):], api.Ins{Op: 99, A: 99})
	}
	fill(got.Texts[:cap(got.Texts)][len(got.Texts):], []byte("more"))
	fill(got.Funcs[:cap(got.Funcs)][len(got.Funcs):], api.Func{Params: 99})
	if !alike(got, p) {
		t.Errorf("P1807: lists of one answer share memory")
	}
}

func fill[T any](list []T, x T) {
	for i := range list {
		list[i] = x
	}
}

// The spare room behind what is handed in stays as it was.
func TestP1807SpareRoom(t *testing.T) {
	row, _ := plainWrite(many())
	long := append(bytes.Clone(row), 1, 2, 3, 4)
	reads(t, "P1807", long[:len(row)], many(), 0, api.OK)
	if !bytes.Equal(long[len(row):], []byte{1, 2, 3, 4}) {
		t.Errorf("P1807: Read has turned the room behind the bytes")
	}
	text := []byte("one and more")
	p := many()
	p.Texts[0] = text[:3]
	code := append(slices.Clone(p.Funcs[0].Code), api.Ins{Op: 5}, api.Ins{Op: 6})
	p.Funcs[0].Code = code[:len(code)-2]
	stands(t, "P1807", p, row)
	if string(text) != "one and more" || code[len(code)-2].Op != 5 || code[len(code)-1].Op != 6 {
		t.Errorf("P1807: Write has turned the room behind a list")
	}
}

// A panic that carries no wrong part is a mistake of the program: it is not told as an error of the bytes.
func TestOnlyWrongPartsAreCaught(t *testing.T) {
	for _, given := range []any{"a mistake", 7, errors.New("another error"), api.ErrBytes} {
		func() {
			defer func() {
				if r := recover(); r != given {
					t.Errorf("what goes on is %v, want %v", r, given)
				}
			}()
			at, errno := caught(given)
			t.Errorf("a panic of another kind is told as %d, %v", at, errno)
		}()
	}
	if at, errno := caught(nil); at != 0 || errno != api.OK {
		t.Errorf("no panic is told as %d, %v", at, errno)
	}
	if at, errno := caught(wrong{api.ErrEnd, 7}); at != 7 || errno != api.ErrEnd {
		t.Errorf("a wrong part is told as %d, %v", at, errno)
	}
	if s := (wrong{api.ErrEnd, 7}).Error(); s != "error 61 at 7" {
		t.Errorf("a wrong part's text is %q", s)
	}
}
