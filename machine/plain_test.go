package machine

import (
	"slices"
	"testing"

	"hearth/api"
	"hearth/fix"
	"hearth/gc"
	"hearth/graph"
	"hearth/prim"
	"hearth/show"
	"hearth/table"
)

// The chapter's words as plainly as they stand, over the words of frames themselves, to hold the package against over both sorts of heaps, which are held against each other besides.

// collect keeps what the roots of a run live by.
func collect(t testing.TB, h prim.Heap, roots list) api.Report {
	t.Helper()
	var r api.Report
	var fault api.Fault
	switch h := h.(type) {
	case *graph.Heap:
		r, fault = h.Collect(roots)
	case *table.Heap:
		r, fault = gc.Collect(h, roots)
	case *spy:
		return collect(t, h.heap, roots)
	}
	sound(t, fault)
	return r
}

// simple is a run over a graph without faults.
type simple struct {
	t              testing.TB
	h              *graph.Heap
	p              api.Program
	c              api.Checked
	frame, globals val
	out            api.Outcome
}

func (s *simple) make(kind, n, tag int) val {
	v, fault := s.h.Make(kind, n, tag)
	sound(s.t, fault)
	return v
}

func (s *simple) set(v val, i int, x val) { sound(s.t, s.h.Set(v, i, x)) }

func (s *simple) setRaw(v val, i, x int) { sound(s.t, s.h.SetRaw(v, i, x)) }

func (s *simple) get(v val, i int) val { return word(s.t, s.h, v, i) }

func simply(t testing.TB, p api.Program) *simple {
	s := &simple{t: t, h: graph.New(), p: p, c: known(t, p)}
	s.globals = s.make(3, p.Globals, 0)
	for i := range p.Globals {
		s.set(s.globals, 1+i, imm(5))
	}
	s.frame = s.framed(s.make(6, 0, 0), imm(0), nil)
	return s
}

// framed is a new frame of a closure.
func (s *simple) framed(closure, link val, args list) val {
	b, _ := s.h.Open(closure)
	f := s.make(11, s.c.Slots[b.Tag], b.Tag)
	s.set(f, 1, link)
	s.set(f, 2, closure)
	for i, x := range args {
		s.set(f, 5+i, x)
	}
	return f
}

// desk is the current frame, opened.
type desk struct {
	f      val
	fn     int
	pc     int
	locals int
	stack  list
}

func (s *simple) open(f val) desk {
	b, _ := s.h.Open(f)
	d := desk{f: f, fn: b.Tag, pc: raw(s.t, s.h, f, 3), locals: s.p.Funcs[b.Tag].Locals}
	for i := range s.c.Depths[d.fn][d.pc] {
		d.stack = append(d.stack, s.get(f, 5+d.locals+i))
	}
	return d
}

// put writes a stack and a pc into a frame.
func (s *simple) put(f val, locals int, stack list, pc int) {
	b, _ := s.h.Open(f)
	for i := 5 + locals; i < b.Size; i++ {
		x := void()
		if k := i - 5 - locals; k < len(stack) {
			x = stack[k]
		}
		s.set(f, i, x)
	}
	s.setRaw(f, 3, pc)
}

func (s *simple) ends(o api.Outcome) {
	s.out.End, s.out.Err, s.out.N, s.out.Value = o.End, o.Err, o.N, o.Value
}

func (s *simple) fails(e api.Errno, n int) { s.ends(api.Outcome{End: api.Failed, Err: e, N: n}) }

func (s *simple) done(v val) {
	text, _ := show.Value(s.h, v)
	s.ends(api.Outcome{End: api.Done, Value: text})
}

// taken is the column takes of DOC.md's table.
func (s *simple) taken(in api.Ins) int {
	switch {
	case in.Op == 16:
		return s.p.Funcs[in.A].Captures
	case in.Op == 17 || in.Op == 18:
		return in.A + 1
	case in.Op >= 30 && in.Op <= 74:
		return prim.Takes(in.Op)
	case in.Op == 13:
		return 2
	case slices.Contains([]int{7, 10, 11, 12, 15, 19, 20, 21, 22, 75}, in.Op):
		return 1
	}
	return 0
}

// back goes on in a frame that waits.
func (s *simple) back(f, answer val) {
	if f == imm(0) {
		s.done(answer)
		return
	}
	d := s.open(f)
	in := s.p.Funcs[d.fn].Code[d.pc]
	takes := 1
	if in.Op == 17 {
		takes = in.A + 1
	}
	rest := append(slices.Clone(d.stack[:len(d.stack)-takes]), answer)
	if raw(s.t, s.h, f, 4) != 0 {
		b, _ := s.h.Open(f)
		to := s.make(11, b.Size-5, b.Tag)
		s.set(to, 1, s.get(f, 1))
		s.set(to, 2, s.get(f, 2))
		for i := 5; i < b.Size; i++ {
			s.set(to, i, s.get(f, i))
		}
		if link := s.get(f, 1); link != imm(0) {
			s.setRaw(link, 4, 1)
		}
		f = to
	}
	s.put(f, d.locals, rest, d.pc+1)
	s.frame = f
}

// call does call, tail and callcc.
func (s *simple) call(d desk, in api.Ins, args list) {
	callee, args := args[0], args[1:]
	b, fault := s.h.Open(callee)
	n := len(args)
	if in.Op == 20 {
		n = 1
	}
	switch {
	case fault != fine || b.Kind != 6 && b.Kind != 7:
		s.fails(86, 0)
		return
	case b.Kind == 6 && s.p.Funcs[b.Tag].Params != n || b.Kind == 7 && n != 1:
		s.fails(83, n)
		return
	}
	waits := d.stack[:len(d.stack)-s.taken(in)]
	if in.Op == 20 {
		k := s.make(7, 0, 0)
		s.set(k, 1, d.f)
		s.setRaw(d.f, 4, 1)
		s.put(d.f, d.locals, waits, d.pc)
		args = list{k}
	}
	if b.Kind == 7 {
		s.back(s.get(callee, 1), args[0])
		return
	}
	link := d.f
	if in.Op == 18 {
		link = s.get(d.f, 1)
	}
	s.frame = s.framed(callee, link, args)
	if in.Op == 17 {
		s.put(d.f, d.locals, waits, d.pc)
	}
}

// step makes one instruction, and tells its Op.
func (s *simple) step() int {
	d := s.open(s.frame)
	in := s.p.Funcs[d.fn].Code[d.pc]
	s.out.Steps++
	n := s.taken(in)
	args := slices.Clone(d.stack[len(d.stack)-n:])
	rest := slices.Clone(d.stack[:len(d.stack)-n])
	next := d.pc + 1
	switch in.Op {
	case 1, 2, 3:
		rest = append(rest, val{Kind: map[int]int{1: 1, 2: 4, 3: 3}[in.Op], N: in.A})
	case 4:
		v, _ := s.h.MakeText(s.p.Texts[in.A])
		rest = append(rest, v)
	case 5:
		v := s.make(5, 0, 0)
		s.setRaw(v, 1, fix.Bits(fix.Float(in.A)))
		rest = append(rest, v)
	case 6:
		rest = append(rest, s.get(d.f, 5+in.A))
	case 7:
		s.set(d.f, 5+in.A, args[0])
	case 8:
		rest = append(rest, s.get(s.get(d.f, 2), 1+in.A))
	case 9:
		x := s.get(s.globals, 1+in.A)
		if x == imm(5) {
			s.fails(84, in.A)
			return in.Op
		}
		rest = append(rest, x)
	case 10:
		s.set(s.globals, 1+in.A, args[0])
	case 11:
	case 12:
		rest = append(rest, args[0], args[0])
	case 13:
		rest = append(rest, args[1], args[0])
	case 14:
		next = in.A
	case 15:
		if args[0] == imm(1) {
			next = in.A
		}
	case 16:
		v := s.make(6, n, in.A)
		for i, x := range args {
			s.set(v, 1+i, x)
		}
		rest = append(rest, v)
	case 17, 18, 20:
		s.call(d, in, args)
		return in.Op
	case 19:
		s.back(s.get(d.f, 1), args[0])
		return in.Op
	case 21:
		s.done(args[0])
		return in.Op
	case 22:
		if args[0].Kind == 1 {
			s.fails(87, args[0].N)
		} else {
			s.fails(80, 1)
		}
		return in.Op
	case 75:
		text, _ := show.Value(s.h, args[0])
		s.out.Log = append(s.out.Log, text)
		rest = append(rest, void())
	default:
		v, fail := prim.Do(s.h, in.Op, args)
		if fail.Err != api.OK {
			s.fails(fail.Err, fail.N)
			return in.Op
		}
		rest = append(rest, v)
	}
	s.put(d.f, d.locals, rest, next)
	return in.Op
}

// needs are what the next instruction needs; tableput's are the heap's own.
func (s *simple) needs(put func(t, k val) []int) []int {
	d := s.open(s.frame)
	in := s.p.Funcs[d.fn].Code[d.pc]
	args := d.stack[len(d.stack)-s.taken(in):]
	frame := func(f val) []int {
		if f == imm(0) || raw(s.t, s.h, f, 4) == 0 {
			return nil
		}
		b, _ := s.h.Open(f)
		return []int{b.Size}
	}
	var out []int
	switch in.Op {
	case 4:
		return []int{2 + (len(s.p.Texts[in.A])+7)/8}
	case 5:
		return []int{2}
	case 16:
		return []int{1 + s.p.Funcs[in.A].Captures}
	case 19:
		return frame(s.get(d.f, 1))
	case 20:
		out = []int{2}
		fallthrough
	case 17, 18:
		n := in.A
		if in.Op == 20 {
			n = 1
		}
		b, _ := s.h.Open(args[0])
		switch {
		case b.Kind == 6 && s.p.Funcs[b.Tag].Params == n:
			return append(out, 5+s.c.Slots[b.Tag])
		case b.Kind == 7 && n == 1:
			return append(out, frame(s.get(args[0], 1))...)
		}
		return nil
	case 72:
		if b, _ := s.h.Open(args[0]); b.Kind == 10 {
			return put(args[0], args[1])
		}
		return nil
	}
	if in.Op >= 30 && in.Op <= 74 {
		sizes, _ := prim.Needs(s.h, in.Op, args)
		return sizes
	}
	return nil
}
