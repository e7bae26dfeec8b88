package asm

import (
	"strings"

	"hearth/api"
)

// use is a jump to a label that was not met yet: its line, and which instruction of the function it is.
type use struct{ line, instruction int }

// assembler reads lines, one behind the other.
type assembler struct {
	program    api.Program
	hasGlobals bool
	labels     map[string]int   // of the last function: the instructions that the names stand for
	uses       map[string][]use // of the last function
	line       int              // the number of the line that was read last
	wrongLine  int              // the least line that is wrong; 0: none
}

// read reads the next line; a wrong one says nothing, and those behind it are read all the same: a label there may be what a jump ahead of it wants.
func (a *assembler) read(line string) {
	a.line++
	defer func() {
		if caught(recover()) {
			a.blame(a.line)
		}
	}()
	a.say(words(line))
}

// blame notes a line that is wrong.
func (a *assembler) blame(line int) {
	if a.wrongLine == 0 || line < a.wrongLine {
		a.wrongLine = line
	}
}

// say does what the words of a line say. Whatever may be wrong is looked at ahead of it.
func (a *assembler) say(list []string) {
	if len(list) == 0 {
		return
	}
	first, operands := list[0], list[1:]
	switch name, isLabel := strings.CutSuffix(first, labelEnd); {
	case isLabel:
		a.label(name, operands)
	case first == globalsWord:
		a.globals(operands)
	case first == funcWord:
		a.newFunction(operands)
	case first == textWord && !a.inFunction():
		a.text(operands)
	default:
		a.instruction(first, operands)
	}
}

func (a *assembler) globals(operands []string) {
	want(!a.hasGlobals && len(a.program.Texts) == 0 && !a.inFunction())
	a.program.Globals = numbers(operands, 1)[0]
	a.hasGlobals = true
}

func (a *assembler) text(operands []string) {
	want(len(operands) == 1)
	a.program.Texts = append(a.program.Texts, unquoted(operands[0], textSign))
}

func (a *assembler) newFunction(operands []string) {
	n := numbers(operands, 3)
	a.leaveFunction()
	a.program.Funcs = append(a.program.Funcs, api.Func{Params: n[0], Locals: n[1], Captures: n[2]})
}

// leaveFunction forgets the last function's labels; jumps whose labels were not met are wrong.
func (a *assembler) leaveFunction() {
	for _, list := range a.uses {
		a.blame(list[0].line)
	}
	clear(a.uses)
	clear(a.labels)
}

func (a *assembler) inFunction() bool { return len(a.program.Funcs) > 0 }

// function is the last one.
func (a *assembler) function() *api.Func {
	want(a.inFunction())
	return &a.program.Funcs[len(a.program.Funcs)-1]
}

// label lets a name stand for the next instruction, in the jumps ahead of it too.
func (a *assembler) label(name string, operands []string) {
	f := a.function()
	_, twice := a.labels[name]
	want(len(operands) == 0 && isName(name) && !twice)
	a.labels[name] = len(f.Code)
	for _, u := range a.uses[name] {
		f.Code[u.instruction].A = len(f.Code)
	}
	delete(a.uses, name)
}

func (a *assembler) instruction(name string, operands []string) {
	f := a.function()
	in := api.Ins{Op: opOf(name)}
	if how := operandOf(in.Op); how == without {
		want(len(operands) == 0)
	} else {
		want(len(operands) == 1)
		in.A = a.operand(how, operands[0])
	}
	f.Code = append(f.Code, in)
}

// operand is that of the next instruction.
func (a *assembler) operand(how operand, word string) int {
	switch how {
	case signed:
		return fixnum(word)
	case bits:
		return floBits(word)
	case char:
		return charNumber(word)
	case immediate:
		return immediateCode(word)
	case target:
		return a.target(word)
	}
	return decimal(word)
}

// target is where the next instruction, a jump, goes; 0, as long as its label was not met.
func (a *assembler) target(word string) int {
	if !isName(word) {
		return decimal(word)
	}
	at, met := a.labels[word]
	if !met {
		a.uses[word] = append(a.uses[word], use{a.line, len(a.function().Code)})
	}
	return at
}
