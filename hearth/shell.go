package hearth

import (
	"strings"
	"sync"

	"hearth/api"
)

// How lines begin that are no commands.
const (
	programSign = '|'
	remarkSign  = '#'
)

// What a script has until its lines say otherwise.
const (
	firstPages = 64
	firstFuel  = 100000
)

// command is a command's work: given the words behind its name it tells what the line answers; false: the words are not right, and nothing has changed.
type command func(*shell, []string) (string, bool)

// shell goes over the lines of one text.
type shell struct {
	answers  strings.Builder
	settings api.Script // all of a script but its program
	programs map[string]*program
	open     *program // to which lines may be added; nil: there is none
	making   sync.Once
	commands map[string]command
}

func newShell() *shell {
	return &shell{
		settings: api.Script{Pages: firstPages, Fuel: firstFuel},
		programs: make(map[string]*program),
	}
}

// read does what a line says.
func (s *shell) read(line string) {
	switch {
	case line == "" || line[0] == remarkSign:
	case line[0] == programSign:
		s.extend(line[1:])
	default:
		s.open = nil
		s.obey(line)
	}
}

// extend adds a line to the open program.
func (s *shell) extend(line string) {
	if s.open == nil {
		s.refuse()
		return
	}
	s.open.text.WriteString(line)
	s.open.text.WriteString(lineEnd)
}

// obey does the command of a line. Where a blank is too much, a word is empty; no command has that name, and none takes such a word.
func (s *shell) obey(line string) {
	words := strings.Split(line, " ")
	work, known := s.commandOf(words[0])
	if !known {
		s.refuse()
		return
	}
	answer, right := work(s, words[1:])
	if !right {
		s.refuse()
		return
	}
	s.answers.WriteString(answer)
}

// refuse answers a line that is none of a script.
func (s *shell) refuse() {
	s.answers.WriteString(api.ErrScript.Error())
	s.answers.WriteString(lineEnd)
}

// commandOf finds a command by its name; a text without commands needs no map of them.
func (s *shell) commandOf(name string) (command, bool) {
	s.making.Do(func() { s.commands = allCommands() })
	work, known := s.commands[name]
	return work, known
}

func allCommands() map[string]command {
	return map[string]command{
		"program": (*shell).newProgram,
		"pages":   (*shell).setPages,
		"fuel":    (*shell).setFuel,
		"force":   (*shell).force,
		"poke":    (*shell).poke,
		"clear":   (*shell).clear,
		"code":    (*shell).code,
		"list":    (*shell).list,
		"run":     (*shell).run,
		"model":   (*shell).model,
		"same":    (*shell).same,
		"heap":    (*shell).heap,
		"value":   (*shell).value,
	}
}
