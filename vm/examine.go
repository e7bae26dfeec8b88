package vm

import (
	"hearth/api"
	"hearth/check"
	"hearth/code"
)

// examine tells the program of a script, and what is known of it; or the outcome of a run that is rejected.
func examine(s api.Script) (api.Program, api.Checked, api.Outcome) {
	if errno := limits(s); errno != api.OK {
		return api.Program{}, api.Checked{}, rejected(errno, 0, 0)
	}
	p, at, errno := code.Read(s.Program)
	if errno != api.OK {
		return api.Program{}, api.Checked{}, rejected(errno, at, 0)
	}
	known, function, instruction, errno := check.Check(p)
	if errno != api.OK {
		return api.Program{}, api.Checked{}, rejected(errno, function, instruction)
	}
	return p, known, api.Outcome{}
}

// limits tells what is wrong in a script beside its program.
func limits(s api.Script) api.Errno {
	switch {
	case s.Pages < 1 || s.Pages > api.MaxPages || s.Fuel < 0 || s.Fuel > api.MaxFuel:
		return api.ErrArg
	case len(s.Force) > api.MaxForce || len(s.Pokes) > api.MaxPokes:
		return api.ErrLong
	}
	return api.OK
}

// rejected is the outcome of a run that never begins.
func rejected(errno api.Errno, at, n int) api.Outcome {
	return api.Outcome{End: api.Rejected, Err: errno, At: at, N: n}
}
