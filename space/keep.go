package space

import (
	"iter"

	"hearth/api"
	"hearth/class"
	"hearth/value"
)

// Wrong tells the least index of a wrong header or a wrong link; -1: there is none.
func (s *Space) Wrong() int {
	s = s.self()
	least := s.wrongHeader()
	for c := range classes {
		if at := s.wrongLink(c); at >= 0 && (least < 0 || at < least) {
			least = at
		}
	}
	return least
}

// wrongHeader tells the least place of an object with a wrong header; -1: there is none.
func (s *Space) wrongHeader() int {
	for b := range s.All() {
		if !s.headed(b) {
			return b.At
		}
	}
	return -1
}

// wrongLink tells the least free block of a class with a wrong link; -1: there is none.
func (s *Space) wrongLink(c int) int {
	for at, next := range s.links(c) {
		if s.words[at] != value.Link(next) {
			return at
		}
	}
	return -1
}

// links goes over the free blocks of a class, rising: each one, and the next one (-1: there is none).
func (s *Space) links(c int) iter.Seq2[int, int] {
	return func(yield func(int, int) bool) {
		last := -1
		for at := range s.free[c].All() {
			if last >= 0 && !yield(last, at) {
				return
			}
			last = at
		}
		if last >= 0 {
			yield(last, -1)
		}
	}
}

// link writes the links of a class's free blocks.
func (s *Space) link(c int) {
	for at, next := range s.links(c) {
		s.words[at] = value.Link(next)
	}
}

// Keep frees all objects but those at these places, and tells how many it has freed.
func (s *Space) Keep(keep []int) (int, api.Errno) {
	s = s.self()
	kept := none(s.Words())
	for _, at := range keep {
		if _, ok := s.objects[at]; !ok {
			return 0, api.ErrBlock
		}
		kept.Set(at)
	}
	freed := 0
	for b := range s.All() {
		if !kept.Get(b.At) {
			s.drop(b)
			freed++
		}
	}
	s.wipe()
	s.deal()
	return freed, api.OK
}

// drop takes an object out of the side tables, and gives back its run, if it has one.
func (s *Space) drop(b api.Block) {
	delete(s.objects, b.At)
	delete(s.serials, b.Serial)
	s.places.Clear(b.At)
	if class.Pages(b.Size) > 0 {
		s.pages.Give(b.At / api.PageWords)
	}
}

// wipe clears all words that lie in no object's room.
func (s *Space) wipe() {
	from := 0
	for b := range s.All() {
		clear(s.words[from:b.At])
		from = b.At + room(b.Size)
	}
	clear(s.words[from:])
}

// deal gives back the pages of classes in which no object stands, and finds and links the free blocks of the others anew.
func (s *Space) deal() {
	for c := range classes {
		s.free[c].Reset()
	}
	for page, state := range s.pages.All() {
		if state.Kind != api.PageClass {
			continue
		}
		if s.empty(page) {
			s.pages.Give(page)
		} else {
			s.freeUp(page, state.Class)
		}
	}
	for c := range classes {
		s.link(c)
	}
}

// empty tells whether no object stands in a page of a class.
func (s *Space) empty(page int) bool {
	at := page * api.PageWords
	return s.places.CountRange(at, at+api.PageWords) == 0
}

// freeUp puts the blocks of a class's page in which no object stands among the free ones.
func (s *Space) freeUp(page, c int) {
	for i := range class.Blocks(c) {
		at := page*api.PageWords + class.Start(c, i)
		if !s.places.Get(at) {
			s.free[c].Set(at)
		}
	}
}
