package vm

import (
	"hearth/api"
	"hearth/gc"
)

// Step makes the next event, and tells which one it was.
func (v *VM) Step() int {
	v = v.self()
	if !v.Running() {
		return api.Ended
	}
	if v.Steps() == v.fuel {
		return v.end(api.OutOfFuel, 0)
	}
	v.corrupt(v.heap, v.Steps())
	switch {
	case v.isForced():
		return v.collect()
	case v.fits():
		return v.execute()
	case v.justCollected:
		return v.end(api.OutOfMemory, 0)
	}
	return v.collect()
}

// end ends the run without an event.
func (v *VM) end(end, at int) int {
	v.Stop(end, at)
	return api.Ended
}

// isForced tells whether the script asks for a collection here, where none was made yet.
func (v *VM) isForced() bool {
	_, forced := v.forced[v.Steps()]
	return forced && !v.justCollected
}

// fits tells whether there is room for what the next instruction makes. One that fails, or meets a wrong word, makes nothing: it is let end the run.
func (v *VM) fits() bool {
	sizes, _ := v.Needs()
	return v.heap.Fits(sizes...)
}

// collect makes a collection; a wrong word that it meets ends the run instead.
func (v *VM) collect() int {
	report, fault := gc.Collect(v.heap, v.Roots())
	if fault.Err != api.OK {
		return v.end(api.Corrupt, fault.At)
	}
	v.report, v.justCollected = report, true
	v.Collected()
	return api.Collected
}

// execute makes the next instruction, for which there is room.
func (v *VM) execute() int {
	v.justCollected = false
	v.Machine.Step()
	return api.Executed
}
