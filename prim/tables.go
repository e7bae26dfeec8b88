package prim

import (
	"hearth/api"
	"hearth/fix"
	"hearth/value"
)

// newTable makes a table.
func newTable(c call) (api.Value, api.Fail) { return told(c.heap.MakeTable()) }

// tableGet tells what a table has at a key; the last operand, if that is nothing.
func tableGet(c call) (api.Value, api.Fail) {
	v, found, fault := c.heap.TableGet(c.args[0], c.args[1])
	if !found {
		v = c.args[2]
	}
	return told(v, fault)
}

// putRoom is the need of a put.
func putRoom(c call) ([]int, api.Fail) {
	sizes, fault := c.heap.PutNeeds(c.args[0], c.args[1])
	if fault.Err != api.OK {
		return nil, failed(fault)
	}
	return sizes, api.Fail{}
}

// tablePut puts a value at a key. PutNeeds is not told the value: it tells a wrong word on the way to the key where TablePut tells first that the value may not stand there. Do is to fail as Needs does, so PutNeeds is followed.
func tablePut(c call) (api.Value, api.Fail) {
	fault := c.heap.TablePut(c.args[0], c.args[1], c.args[2])
	if fault.Err == api.ErrValue {
		if _, fail := putRoom(c); fail.Err != api.OK {
			return api.Value{}, fail
		}
	}
	return told(void(), fault)
}

// tableDelete takes a key away.
func tableDelete(c call) (api.Value, api.Fail) {
	_, fault := c.heap.TableDelete(c.args[0], c.args[1])
	return told(void(), fault)
}

// tableCount tells how many keys a table has, as a fixnum: what a count's word holds may be more than one.
func tableCount(c call) (api.Value, api.Fail) {
	n, fault := c.heap.TableCount(c.args[0])
	return told(value.Fix(fix.Wrap(n)), fault)
}
