package object

import (
	"hearth/api"
	"hearth/layout"
	"hearth/value"
)

// Right tells whether a word is a right value for the word i of the object at a place.
func (h *Heap) Right(at, i, w int) bool {
	h = h.self()
	b, ok := h.Block(at)
	return ok && h.right(b, layout.Role(b.Kind, b.Size, i), w)
}

// right is Right for a word of a role of an object. (Role 0: the object has no such word.)
func (h *Heap) right(b api.Block, role, w int) bool {
	if role == 0 || role == api.RoleRaw {
		return role == api.RoleRaw
	}
	v, ok := value.Read(w)
	if !ok {
		return false
	}
	if v.Kind == api.ValRef {
		to, ok := h.Block(v.N)
		return ok && leads(b, role, to)
	}
	return plain(role) || v == value.Imm(api.ImmNil)
}

// plain tells whether a role is one of those that take any value that a program can hold.
func plain(role int) bool {
	switch role {
	case api.RoleStrong, api.RoleWeak, api.RoleKey, api.RoleVal:
		return true
	}
	return false
}

// leads tells whether a word of a role of the object b may refer to another object.
func leads(b api.Block, role int, to api.Block) bool {
	switch role {
	case api.RoleFrame:
		return to.Kind == api.KindFrame
	case api.RoleFunc:
		return to.Kind == api.KindClosure && to.Tag == b.Tag
	case api.RoleSpine:
		return to.Kind == api.KindSpine && to.Tag == b.Serial
	case api.RoleChain:
		return to.Kind == api.KindEntry && to.Tag == b.Tag && above(b, to)
	}
	return layout.Visible(to.Kind)
}

// above tells whether an entry may follow on b in a row. Places rise from entry to entry, so that every row ends; a spine's heads lead anywhere.
func above(b, to api.Block) bool {
	return b.Kind != api.KindEntry || to.At > b.At
}
