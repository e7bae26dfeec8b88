package hearth

import (
	"fmt"
	"math/big"
	"regexp"
	"strings"

	"hearth/api"
	"hearth/asm"
	"hearth/audit"
	"hearth/code"
	"hearth/model"
	"hearth/vm"
)

// The chapter's words as plainly as they stand, with its numbers, to hold the package against.

const (
	plainNatural = `(?:0|[1-9][0-9]*)`
	plainWhole   = `(?:0|-?[1-9][0-9]*)`
)

var (
	programForm  = regexp.MustCompile(`^program ([a-z]{1,16})$`)
	settingForm  = regexp.MustCompile(`^(pages|fuel) (` + plainNatural + `)$`)
	forceForm    = regexp.MustCompile(`^force((?: ` + plainNatural + `){1,50})$`)
	pokeForm     = regexp.MustCompile(`^poke (` + plainNatural + `) (` + plainNatural + `) (` + plainWhole + `)$`)
	clearForm    = regexp.MustCompile(`^clear$`)
	questionForm = regexp.MustCompile(`^(code|list|run|model|same|heap|value) ([a-z]{1,16})$`)
)

// plainShell is what is kept from line to line.
type plainShell struct {
	pages, fuel int
	force       []int
	pokes       []api.Poke
	texts       map[string]string
	open        string
	told        strings.Builder
}

// plainPlay is Play as the chapter tells of it.
func plainPlay(text string) string {
	lines := strings.Split(text, "\n")
	if lines[len(lines)-1] == "" {
		lines = lines[:len(lines)-1]
	}
	if len(text) > 1048576 || len(lines) > 100000 {
		return "error 2\n"
	}
	s := &plainShell{pages: 64, fuel: 100000, texts: map[string]string{}}
	for _, line := range lines {
		s.line(line)
	}
	return s.told.String()
}

func (s *plainShell) tell(form string, a ...any) { fmt.Fprintf(&s.told, form+"\n", a...) }

func (s *plainShell) line(line string) {
	if strings.HasPrefix(line, "|") && s.open != "" {
		s.texts[s.open] += line[1:] + "\n"
		return
	}
	if line == "" || strings.HasPrefix(line, "#") {
		return
	}
	s.open = ""
	if !s.command(line) {
		s.tell("error 100")
	}
}

// command does a command; false: the line is none.
func (s *plainShell) command(line string) bool {
	if m := programForm.FindStringSubmatch(line); m != nil {
		s.open, s.texts[m[1]] = m[1], ""
		return true
	}
	if m := settingForm.FindStringSubmatch(line); m != nil {
		n, ok := plainNumbers(m[2])
		if ok && m[1] == "pages" {
			s.pages = n[0]
		} else if ok {
			s.fuel = n[0]
		}
		return ok
	}
	if m := forceForm.FindStringSubmatch(line); m != nil {
		n, ok := plainNumbers(strings.Fields(m[1])...)
		if !ok || len(s.force)+len(n) > 65536 {
			return false
		}
		s.force = append(s.force, n...)
		return true
	}
	if m := pokeForm.FindStringSubmatch(line); m != nil {
		n, ok := plainNumbers(m[1:]...)
		if !ok || len(s.pokes) >= 65536 {
			return false
		}
		s.pokes = append(s.pokes, api.Poke{Step: n[0], At: n[1], Word: n[2]})
		return true
	}
	if clearForm.MatchString(line) {
		s.force, s.pokes = nil, nil
		return true
	}
	if m := questionForm.FindStringSubmatch(line); m != nil {
		text, there := s.texts[m[2]]
		if there {
			s.question(m[1], text)
		}
		return there
	}
	return false
}

// plainNumbers are numbers of digits that are right; false: one is out of range.
func plainNumbers(words ...string) ([]int, bool) {
	var list []int
	for _, w := range words {
		n, _ := new(big.Int).SetString(w, 10)
		if !n.IsInt64() {
			return nil, false
		}
		list = append(list, int(n.Int64()))
	}
	return list, true
}

// question tells of a program.
func (s *plainShell) question(what, text string) {
	p, line, errno := asm.Assemble(text)
	if errno != 0 {
		s.tell("line %d", line)
		return
	}
	row, _ := code.Write(p)
	script := api.Script{Program: row, Fuel: s.fuel, Pages: s.pages, Force: s.force, Pokes: s.pokes}
	v := plainRun(script)
	o := v.Outcome()
	switch what {
	case "code":
		s.tell("bytes %d %x", len(row), row)
	case "list":
		printed, _ := asm.Print(p)
		s.told.WriteString(printed)
	case "run":
		s.outcome(o)
	case "model":
		memory := -1
		if o.End == api.OutOfMemory {
			memory = o.Steps
		}
		s.outcome(model.Run(row, s.fuel, o.Collections, memory))
	case "same":
		word, n := plainSame(script)
		s.tell("%s %d", word, n)
	case "heap":
		d := v.Dump()
		free := 0
		for _, page := range d.Pages {
			if page == (api.Page{}) {
				free++
			}
		}
		s.tell("words %d blocks %d free %d found %d", len(d.Words), len(d.Blocks), free, len(audit.Check(d)))
	case "value":
		if o.End != api.Done {
			o.Value = ""
		}
		s.tell("%s", o.Value)
	}
}

// plainRun is the vm behind the end of a script's run.
func plainRun(s api.Script) *vm.VM {
	v := vm.New(s)
	for v.Step() != api.Ended {
	}
	return v
}

func (s *plainShell) outcome(o api.Outcome) {
	end := map[int]string{
		api.Done:        "done " + o.Value,
		api.Failed:      fmt.Sprintf("failed %d %d", int(o.Err), o.N),
		api.OutOfMemory: "memory",
		api.OutOfFuel:   "fuel",
		api.Corrupt:     fmt.Sprintf("corrupt %d", o.At),
		api.Rejected:    fmt.Sprintf("rejected %d %d %d", int(o.Err), o.At, o.N),
	}[o.End]
	s.tell("%s steps %d collections %d", end, o.Steps, len(o.Collections))
	for _, text := range o.Log {
		s.tell("log %s", text)
	}
}

// plainSame plays both machines side by side.
func plainSame(script api.Script) (string, int) {
	script.Pokes = nil
	v, m := vm.New(script), model.New(script.Program)
	if end := v.Outcome().End; end == api.Rejected || end == api.OutOfMemory {
		return "same", 0
	}
	alike := func() bool {
		g, fault := v.Graph()
		return fault == api.Fault{} && fmt.Sprint(v.Outcome(), g) == fmt.Sprint(m.Outcome(), m.Graph())
	}
	for n := 0; ; n++ {
		if !alike() {
			return "unlike", n
		}
		switch v.Step() {
		case api.Collected:
			if m.Collect() != v.Report() {
				return "unlike", n + 1
			}
		case api.Executed:
			m.Step()
		default:
			if end := v.Outcome().End; end == api.OutOfMemory || end == api.OutOfFuel {
				m.Stop(end)
			}
			if !alike() {
				return "unlike", n
			}
			return "same", n
		}
	}
}
