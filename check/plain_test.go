package check

import (
	"math/rand"
	"slices"

	"hearth/api"
	"hearth/code"
)

// The chapter's words as plainly as they stand, with its numbers, to hold the package against.

// What the instructions 0 to 22 and 30 to 75 take and put, as DOC.md's table has it; c the captures of the function A, a the operand and one, ? there is no such instruction.
const (
	lowTakes  = "?00000010011120" + "1caa" + "1111"
	lowPuts   = "?11111101100220" + "0110" + "0100"
	highTakes = "21122112223112221122222222222111121122110332" + "11"
)

func plainTakes(p api.Program, in api.Ins) int {
	sort := byte('?')
	switch {
	case in.Op >= 0 && in.Op <= 22:
		sort = lowTakes[in.Op]
	case in.Op >= 30 && in.Op <= 75:
		sort = highTakes[in.Op-30]
	}
	switch sort {
	case 'c':
		return p.Funcs[in.A].Captures
	case 'a':
		return in.A + 1
	}
	return int(sort - '0')
}

func plainPuts(op int) int {
	if op <= 22 {
		return int(lowPuts[op] - '0')
	}
	return 1
}

// isOp tells whether the table has an instruction.
func isOp(op int) bool { return op >= 1 && op <= 22 || op >= 30 && op <= 75 }

func plainRight(p api.Program, f api.Func, in api.Ins) bool {
	a := in.A
	switch in.Op {
	case 2:
		return a >= 0 && a < 0xD800 || a > 0xDFFF && a <= 0x10FFFF
	case 3:
		return a >= 0 && a <= 4
	case 4:
		return a < len(p.Texts)
	case 6, 7:
		return a < f.Locals
	case 8:
		return a < f.Captures
	case 9, 10:
		return a < p.Globals
	case 16:
		return a < len(p.Funcs)
	case 17, 18:
		return a >= 0 && a <= 8
	}
	return true
}

// plainNext are the instructions on which one may go, in their order.
func plainNext(i int, in api.Ins) []int {
	switch in.Op {
	case 14:
		return []int{in.A}
	case 15:
		return []int{i + 1, in.A}
	case 18, 19, 21, 22:
		return nil
	}
	return []int{i + 1}
}

// plainWays are the depths of a function's instructions; or an error, and at which instruction.
func plainWays(p api.Program, f api.Func) ([]int, int, api.Errno) {
	depths, through := map[int]int{0: 0}, map[int]bool{}
	for {
		i := 0
		for i < len(f.Code) {
			if _, known := depths[i]; known && !through[i] {
				break
			}
			i++
		}
		if i == len(f.Code) {
			break
		}
		through[i] = true
		in := f.Code[i]
		if depths[i] < plainTakes(p, in) {
			return nil, i, 74
		}
		d := depths[i] - plainTakes(p, in) + plainPuts(in.Op)
		if d > 64 {
			return nil, i, 75
		}
		for _, next := range plainNext(i, in) {
			if next == i+1 && next == len(f.Code) {
				return nil, i, 77
			}
			if there, known := depths[next]; known && there != d {
				return nil, i, 76
			}
			depths[next] = d
		}
	}
	list := []int{}
	for i := range f.Code {
		d, known := depths[i]
		if !known {
			d = -1
		}
		list = append(list, d)
	}
	return list, 0, 0
}

// plainParts is the first error of the functions and their instructions, each by itself.
func plainParts(p api.Program) (int, int, api.Errno) {
	for n, f := range p.Funcs {
		if f.Params > f.Locals || len(f.Code) == 0 {
			return n, 0, 71
		}
		for i, in := range f.Code {
			if !plainRight(p, f, in) {
				return n, i, 72
			}
			if (in.Op == 14 || in.Op == 15) && in.A >= len(f.Code) {
				return n, i, 73
			}
		}
	}
	return 0, 0, 0
}

// plainCheck is Check.
func plainCheck(p api.Program) (api.Checked, int, int, api.Errno) {
	if _, errno := code.Write(p); errno != 0 {
		return api.Checked{}, 0, 0, 62
	}
	if p.Funcs[0].Params > 0 || p.Funcs[0].Captures > 0 {
		return api.Checked{}, 0, 0, 70
	}
	if f, i, errno := plainParts(p); errno != 0 {
		return api.Checked{}, f, i, errno
	}
	var c api.Checked
	for n, f := range p.Funcs {
		depths, i, errno := plainWays(p, f)
		if errno != 0 {
			return api.Checked{}, n, i, errno
		}
		most := 0
		for _, d := range depths {
			most = max(most, d)
		}
		c.Slots = append(c.Slots, f.Locals+most)
		c.Depths = append(c.Depths, depths)
	}
	return c, 0, 0, 0
}

// alike tells whether two answers are one; nil and an empty list are.
func alike(a, b api.Checked) bool {
	return slices.Equal(a.Slots, b.Slots) && slices.EqualFunc(a.Depths, b.Depths, slices.Equal[[]int])
}

// clone is a program that shares nothing with p.
func clone(p api.Program) api.Program {
	p.Texts = slices.Clone(p.Texts)
	for i, text := range p.Texts {
		p.Texts[i] = slices.Clone(text)
	}
	p.Funcs = slices.Clone(p.Funcs)
	for i, f := range p.Funcs {
		p.Funcs[i].Code = slices.Clone(f.Code)
	}
	return p
}

// sameProgram tells whether two programs are one.
func sameProgram(p, q api.Program) bool {
	return p.Globals == q.Globals && slices.EqualFunc(p.Texts, q.Texts, slices.Equal[[]byte]) && slices.EqualFunc(p.Funcs, q.Funcs, func(f, g api.Func) bool {
		return f.Params == g.Params && f.Locals == g.Locals && f.Captures == g.Captures && slices.Equal(f.Code, g.Code)
	})
}

// below is a number below n; 0, if there is none.
func below(source *rand.Rand, n int) int {
	if n == 0 {
		return 0
	}
	return source.Intn(n)
}

// someOperand is an operand that is right for an instruction, but for jumps.
func someOperand(source *rand.Rand, p api.Program, f api.Func, op int) int {
	switch op {
	case 1, 5:
		return source.Intn(2000) - 1000
	case 2:
		return []int{0, 65, 0xD7FF, 0xE000, 0x10FFFF}[source.Intn(5)]
	case 3:
		return source.Intn(5)
	case 4:
		return below(source, len(p.Texts))
	case 6, 7:
		return below(source, f.Locals)
	case 8:
		return below(source, f.Captures)
	case 9, 10:
		return below(source, p.Globals)
	case 16:
		return source.Intn(len(p.Funcs))
	case 17, 18:
		return source.Intn(9)
	}
	return 0
}

// someIns is an instruction that may stand where so much lies on the stack.
func someIns(source *rand.Rand, p api.Program, f api.Func, depth int) api.Ins {
	for {
		op := source.Intn(76)
		if !isOp(op) {
			continue
		}
		in := api.Ins{Op: op, A: someOperand(source, p, f, op)}
		left := depth - plainTakes(p, in)
		if plainRight(p, f, in) && left >= 0 && left+plainPuts(op) <= 64 {
			return in
		}
	}
}

// someCode is instructions through which the ways are right: jumps lead where as much is meant to lie.
func someCode(source *rand.Rand, p api.Program, f api.Func) []api.Ins {
	var list []api.Ins
	var ahead, behind []int
	depth := 0
	for n := source.Intn(40); len(list) < n; {
		in := someIns(source, p, f, depth)
		ahead = append(ahead, depth)
		list = append(list, in)
		depth += plainPuts(in.Op) - plainTakes(p, in)
		behind = append(behind, depth)
		if in.Op != 14 && plainNext(0, in) == nil {
			depth = source.Intn(6)
		}
	}
	ahead, behind = append(ahead, depth), append(behind, depth)
	list = append(list, api.Ins{Op: 14}) // nothing runs out
	for i, in := range list {
		if in.Op != 14 && in.Op != 15 {
			continue
		}
		list[i].A = source.Intn(len(list))
		for ahead[list[i].A] != behind[i] {
			list[i].A = (list[i].A + 1) % len(list)
		}
	}
	return list
}

// someProgram is a program that is right.
func someProgram(source *rand.Rand) api.Program {
	p := api.Program{Globals: source.Intn(4), Funcs: make([]api.Func, 1+source.Intn(4))}
	for range source.Intn(4) {
		p.Texts = append(p.Texts, []byte("text"))
	}
	for n := range p.Funcs {
		p.Funcs[n].Locals = source.Intn(65) / (1 + source.Intn(10))
		if n > 0 {
			p.Funcs[n].Params = source.Intn(min(8, p.Funcs[n].Locals) + 1)
			p.Funcs[n].Captures = source.Intn(65) / (1 + source.Intn(30))
		}
	}
	for n, f := range p.Funcs {
		p.Funcs[n].Code = someCode(source, p, f)
	}
	return p
}

// mar turns a few things of a program, so that something in it may be wrong.
func mar(source *rand.Rand, p api.Program) {
	for range 1 + source.Intn(3) {
		n := source.Intn(len(p.Funcs))
		f := &p.Funcs[n]
		i := source.Intn(len(f.Code) + 1)
		switch turn := source.Intn(12); {
		case turn == 0:
			f.Params = source.Intn(3)
		case turn == 1:
			f.Captures = source.Intn(3)
		case turn == 2:
			f.Locals = source.Intn(9)
		case turn == 3:
			f.Code = f.Code[:i]
		case turn == 4:
			f.Code = slices.Insert(f.Code, i, slices.Repeat([]api.Ins{{Op: 1}}, 1+source.Intn(2)*source.Intn(70))...)
		case i == len(f.Code):
		case turn == 5:
			f.Code = slices.Delete(f.Code, i, i+1)
		case turn == 6:
			f.Code[i] = api.Ins{Op: 1 + source.Intn(75)}
		case turn == 7:
			f.Code[i].A = source.Intn(20)
		case turn == 8:
			f.Code[i] = api.Ins{Op: 14 + source.Intn(2), A: source.Intn(len(f.Code) + 1)}
		default:
			op := []int{2, 3, 4, 6, 7, 8, 9, 10, 11, 12, 13, 16, 17, 18}[source.Intn(14)]
			f.Code[i] = api.Ins{Op: op, A: someOperand(source, p, *f, op)}
		}
	}
}
