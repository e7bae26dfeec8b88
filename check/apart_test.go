package check

import (
	"errors"
	"math/rand"
	"slices"
	"sync"
	"testing"

	"hearth/api"
)

// many is a program with something of everything.
func many() api.Program {
	return api.Program{
		Globals: 3,
		Texts:   [][]byte{[]byte("one"), nil, []byte("three")},
		Funcs: []api.Func{
			{Locals: 2, Code: []api.Ins{fix(), op(api.OpSetLocal, 1), op(api.OpText, 2), op(api.OpClosure, 1), op(api.OpCallCC), halt(), pop()}},
			{Params: 1, Locals: 3, Captures: 1, Code: []api.Ins{op(api.OpCaptured, 0), branch(3), jump(0), op(api.OpTable), op(api.OpReturn)}},
			{Code: []api.Ins{jump(0)}},
		},
	}
}

func manyChecked() api.Checked {
	return api.Checked{Slots: []int{3, 4, 0}, Depths: [][]int{{0, 1, 0, 1, 1, 1, -1}, {0, 1, 0, 0, 1}, {0}}}
}

func TestP1907AgainAndAgain(t *testing.T) {
	for range 20 {
		asked(t, "P1907", many(), manyChecked(), 0, 0, api.OK)
		refused(t, "P1907", api.Program{}, 0, 0, api.ErrForm)
		refused(t, "P1907", all(good(), fn(fix(), pop())), 1, 1, api.ErrRuns)
		passes(t, "P1907", one(fix(), halt()), 1, 0, 1)
	}
}

func TestP1907SideBySide(t *testing.T) {
	same := make([]bool, 8)
	var workers sync.WaitGroup
	for w := range same {
		workers.Go(func() {
			source := rand.New(rand.NewSource(int64(w)))
			same[w] = true
			for turn := range 2000 {
				p := someProgram(source)
				if turn%2 > 0 {
					mar(source, p)
				}
				c, f, i, errno := Check(p)
				want, n, j, e := plainCheck(p)
				same[w] = same[w] && alike(c, want) && f == n && i == j && errno == e
			}
		})
	}
	workers.Wait()
	if slices.Contains(same, false) {
		t.Errorf("P1907: side by side: %v", same)
	}
}

// One program that many look at is changed by none of them.
func TestP1907OneForAll(t *testing.T) {
	p := many()
	same := make([]bool, 8)
	var workers sync.WaitGroup
	for w := range same {
		workers.Go(func() {
			c, _, _, errno := Check(p)
			same[w] = errno == api.OK && alike(c, manyChecked())
		})
	}
	workers.Wait()
	if slices.Contains(same, false) || !sameProgram(p, many()) {
		t.Errorf("P1907: %v, %v", same, p)
	}
}

// What is handed in is not kept, and what is answered is nobody else's.
func TestP1907NewMemory(t *testing.T) {
	p := many()
	c, _, _, _ := Check(p)
	for n := range p.Funcs {
		fill(p.Funcs[n].Code, api.Ins{Op: 99, A: 99})
	}
	fill(p.Funcs, api.Func{Params: 99})
	if !alike(c, manyChecked()) {
		t.Errorf("P1907: the answer shares memory with the program")
	}
	p = many()
	c, _, _, _ = Check(p)
	for _, depths := range c.Depths {
		fill(depths[:cap(depths)], 99)
	}
	fill(c.Depths[:cap(c.Depths)], nil)
	fill(c.Slots[:cap(c.Slots)], 99)
	if !sameProgram(p, many()) {
		t.Errorf("P1907: the program shares memory with the answer")
	}
	asked(t, "P1907", p, manyChecked(), 0, 0, api.OK)
}

// The lists of one answer lie apart: what is written behind one does not come into the next.
func TestP1907ListsApart(t *testing.T) {
	c, _, _, _ := Check(many())
	for _, depths := range c.Depths {
		fill(depths[:cap(depths)][len(depths):], 99)
	}
	fill(c.Depths[:cap(c.Depths)][len(c.Depths):], []int{99})
	fill(c.Slots[:cap(c.Slots)][len(c.Slots):], 99)
	if !alike(c, manyChecked()) {
		t.Errorf("P1907: lists of one answer share memory")
	}
}

func fill[T any](list []T, x T) {
	for i := range list {
		list[i] = x
	}
}

// The spare room behind what is handed in stays as it was, and turns nothing.
func TestP1907SpareRoom(t *testing.T) {
	p := many()
	code := append(slices.Clone(p.Funcs[2].Code), pop(), op(99))
	p.Funcs[2].Code = code[:1]
	funcs := append(slices.Clone(p.Funcs), api.Func{Params: 77})
	p.Funcs = funcs[:3]
	asked(t, "P1907", p, manyChecked(), 0, 0, api.OK)
	if code[1] != pop() || code[2] != op(99) || funcs[3].Params != 77 {
		t.Errorf("P1907: Check has turned the room behind a list")
	}
}

// nil and an empty list are the same.
func TestP1907NilAndEmpty(t *testing.T) {
	refused(t, "P1907", api.Program{Texts: [][]byte{}, Funcs: []api.Func{}}, 0, 0, api.ErrForm)
	refused(t, "P1907", all(fn([]api.Ins{}...)), 0, 0, api.ErrFunc)
	refused(t, "P1907", all(api.Func{Code: []api.Ins{}}), 0, 0, api.ErrFunc)
	passes(t, "P1907", api.Program{Texts: [][]byte{}, Funcs: []api.Func{good()}}, 1, 0, 1)
}

// A panic that carries no wrong place is a mistake of this package: it is not told as an error of the program.
func TestOnlyWrongPlacesAreCaught(t *testing.T) {
	for _, given := range []any{"a mistake", 7, errors.New("another error"), api.ErrUnder} {
		func() {
			defer func() {
				if r := recover(); r != given {
					t.Errorf("what goes on is %v, want %v", r, given)
				}
			}()
			f, i, errno := caught(given)
			t.Errorf("a panic of another kind is told as %d, %d, %v", f, i, errno)
		}()
	}
	if f, i, errno := caught(nil); f != 0 || i != 0 || errno != api.OK {
		t.Errorf("no panic is told as %d, %d, %v", f, i, errno)
	}
	if f, i, errno := caught(wrong{api.ErrUnder, 3, 7}); f != 3 || i != 7 || errno != api.ErrUnder {
		t.Errorf("a wrong place is told as %d, %d, %v", f, i, errno)
	}
}
