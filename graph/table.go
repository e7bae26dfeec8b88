package graph

import "hearth/api"

// MakeTable makes a table.
func (h *Heap) MakeTable() (api.Value, api.Fault) { return h.Make(api.KindTable, 0, 0) }

// table is the table of t, for a call that is handed a key, or a key and a value besides.
func (h *Heap) table(t api.Value, handed ...api.Value) (*node, api.Fault) {
	n := h.node(t)
	if n == nil {
		return nil, fail(api.ErrRef)
	}
	if n.kind != api.KindTable {
		return nil, fail(api.ErrKind)
	}
	for _, x := range handed {
		if !h.plain(x) {
			return nil, fail(api.ErrValue)
		}
	}
	return n, api.Fault{}
}

// TableGet tells what a table has at a key; false: nothing.
func (h *Heap) TableGet(t, k api.Value) (api.Value, bool, api.Fault) {
	n, fault := h.table(t, k)
	if fault.Err != api.OK {
		return api.Value{}, false, fault
	}
	v, ok := n.entries[k]
	return v, ok, api.Fault{}
}

// TablePut puts a value at a key.
func (h *Heap) TablePut(t, k, v api.Value) api.Fault {
	n, fault := h.table(t, k, v)
	if fault.Err != api.OK {
		return fault
	}
	n.entries[k] = v
	return api.Fault{}
}

// TableDelete takes a key away; false: it was not there.
func (h *Heap) TableDelete(t, k api.Value) (bool, api.Fault) {
	n, fault := h.table(t, k)
	if fault.Err != api.OK {
		return false, fault
	}
	_, ok := n.entries[k]
	delete(n.entries, k)
	return ok, api.Fault{}
}

// TableCount tells how many keys a table has.
func (h *Heap) TableCount(t api.Value) (int, api.Fault) {
	n, fault := h.table(t)
	if fault.Err != api.OK {
		return 0, fault
	}
	return len(n.entries), api.Fault{}
}

// PutNeeds tells the sizes of the objects that a put would make: none here.
func (h *Heap) PutNeeds(t, k api.Value) ([]int, api.Fault) {
	_, fault := h.table(t, k)
	return nil, fault
}
