package audit

import (
	"sync"
	"sync/atomic"

	"hearth/api"
	"hearth/header"
	"hearth/layout"
	"hearth/value"
)

// hands is how many goroutines share the blocks.
const hands = 4

// all tells all that is wrong but for blocks that do not stand: wrong words of blocks, and what is wrong beside them, which is looked for at the same time.
func (l *look) all() []api.Finding {
	var workers sync.WaitGroup
	var words share
	for range hands {
		workers.Go(func() { words.look(l) })
	}
	beside := make(chan []api.Finding)
	workers.Go(func() { l.beside(beside) })
	var found []api.Finding
	for list := range beside {
		found = append(found, list...)
	}
	workers.Wait()
	return append(found, words.found...)
}

// beside sends what is wrong in the side tables, and in the words of free blocks.
func (l *look) beside(to chan<- []api.Finding) {
	defer close(to)
	to <- l.pages()
	to <- l.serials()
	to <- l.free()
}

// share is what goroutines share that look for wrong words of blocks.
type share struct {
	looked atomic.Int64 // how many blocks were looked at: the next one has this number
	mutex  sync.Mutex
	found  []api.Finding
}

// look looks at those blocks that no other goroutine has come to: they are its part.
func (s *share) look(l *look) {
	var part []api.Finding
	for {
		i := int(s.looked.Add(1)) - 1
		if i >= len(l.blocks) {
			break
		}
		part = append(part, l.words(l.blocks[i])...)
	}
	s.mutex.Lock()
	defer s.mutex.Unlock()
	s.found = append(s.found, part...)
}

// words tells the wrong words of a block.
func (l *look) words(b api.Block) []api.Finding {
	var found []api.Finding
	if l.dump.Words[b.At] != header.Make(b.At, b.Kind, b.Size) {
		found = append(found, api.Finding{At: b.At, What: api.FindHeader})
	}
	for i := 1; i < b.Size; i++ {
		role := layout.Role(b.Kind, b.Size, i)
		if role != api.RoleRaw && !l.right(b, role, l.dump.Words[b.At+i]) {
			found = append(found, api.Finding{At: b.At + i, What: api.FindValue})
		}
	}
	return found
}

// right tells whether a word is a right value for a role, which is not raw, in a block.
func (l *look) right(b api.Block, role, w int) bool {
	v, ok := value.Read(w)
	if !ok {
		return false
	}
	if v.Kind != api.ValRef {
		return holds(role) || v == value.Imm(api.ImmNil)
	}
	to, ok := l.block(v.N)
	return ok && leads(b, role, to)
}

// holds tells whether a role takes any value that programs can hold; the others take nil and references of one kind.
func holds(role int) bool {
	return role == api.RoleStrong || role == api.RoleWeak || role == api.RoleKey || role == api.RoleVal
}

// leads tells whether a word with a role may lead from one block to another.
func leads(b api.Block, role int, to api.Block) bool {
	switch role {
	case api.RoleFrame:
		return to.Kind == api.KindFrame
	case api.RoleFunc:
		return to.Kind == api.KindClosure && to.Tag == b.Tag
	case api.RoleSpine:
		return to.Kind == api.KindSpine && to.Tag == b.Serial
	case api.RoleChain:
		return to.Kind == api.KindEntry && to.Tag == b.Tag && (b.Kind != api.KindEntry || to.At > b.At)
	}
	return layout.Visible(to.Kind)
}
