package hearth

import (
	"hearth/api"
	"hearth/asm"
	"hearth/audit"
	"hearth/model"
	"hearth/vm"
)

// code tells a program's bytes.
func (s *shell) code(words []string) (string, bool) {
	return s.tellOf(words, func(p *program) string { return bytesText(p.row) })
}

// list prints a program.
func (s *shell) list(words []string) (string, bool) {
	return s.tellOf(words, func(p *program) string {
		text, _ := asm.Print(p.whole) // it was written already
		return text
	})
}

// run tells how a program's run over the arena ends.
func (s *shell) run(words []string) (string, bool) {
	return s.tellOf(words, func(p *program) string { return outcomeText(vm.Run(s.script(p))) })
}

// model tells how the same run over a graph ends.
func (s *shell) model(words []string) (string, bool) {
	return s.tellOf(words, func(p *program) string {
		o := vm.Run(s.script(p))
		memory := -1
		if o.End == api.OutOfMemory {
			memory = o.Steps
		}
		return outcomeText(model.Run(p.row, s.settings.Fuel, o.Collections, memory))
	})
}

// same tells how long the two runs stand alike.
func (s *shell) same(words []string) (string, bool) {
	return s.tellOf(words, func(p *program) string {
		script := s.script(p)
		script.Pokes = nil
		return together(script)
	})
}

// heap tells of the arena behind a run.
func (s *shell) heap(words []string) (string, bool) {
	return s.tellOf(words, func(p *program) string {
		run := vm.New(s.script(p))
		for run.Step() != api.Ended {
		}
		d := run.Dump()
		return heapText(d, len(audit.Check(d)))
	})
}

// value tells a run's value alone; of a run without one that is empty.
func (s *shell) value(words []string) (string, bool) {
	return s.tellOf(words, func(p *program) string { return vm.Run(s.script(p)).Value + lineEnd })
}
