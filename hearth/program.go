package hearth

import (
	"strings"

	"hearth/api"
	"hearth/asm"
	"hearth/code"
)

// program is a text, and what it has turned out to be.
type program struct {
	text      strings.Builder
	assembled bool // what follows is known
	whole     api.Program
	row       []byte
	wrongLine int
	errno     api.Errno
}

// newProgram opens a program.
func (s *shell) newProgram(words []string) (string, bool) {
	if len(words) != 1 || !isName(words[0]) {
		return "", false
	}
	s.open = &program{}
	s.programs[words[0]] = s.open
	return "", true
}

// assemble makes a closed program of its text, once: a text may be long, and asked for often.
func (p *program) assemble() {
	if p.assembled {
		return
	}
	p.whole, p.wrongLine, p.errno = asm.Assemble(p.text.String())
	if p.errno == api.OK {
		p.row, p.errno = code.Write(p.whole)
	}
	p.assembled = true
}

// tellOf tells of the program that the words name, or which of its lines is wrong.
func (s *shell) tellOf(words []string, tell func(*program) string) (string, bool) {
	if len(words) != 1 {
		return "", false
	}
	p, there := s.programs[words[0]]
	if !there {
		return "", false
	}
	p.assemble()
	if p.errno != api.OK {
		return numbered("line", p.wrongLine) + lineEnd, true
	}
	return tell(p), true
}

// script is a program with what the lines ahead have set.
func (s *shell) script(p *program) api.Script {
	script := s.settings
	script.Program = p.row
	return script
}
