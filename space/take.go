package space

import (
	"hearth/api"
	"hearth/class"
	"hearth/header"
	"hearth/layout"
	"hearth/pages"
	"hearth/value"
)

// Alloc takes an object; its words behind the header are 0.
func (s *Space) Alloc(kind, size, tag int) (int, api.Fault) {
	if !layout.Fits(kind, size) {
		return 0, api.Fault{Err: api.ErrShape}
	}
	s = s.self()
	at, fault := s.take(size)
	if fault.Err != api.OK {
		return 0, fault
	}
	s.enter(api.Block{At: at, Kind: kind, Size: size, Serial: s.number(kind), Tag: tag})
	return at, api.Fault{}
}

// take takes the room of an object, and tells where it begins.
func (s *Space) take(size int) (int, api.Fault) {
	if n := class.Pages(size); n > 0 {
		return s.takeRun(n)
	}
	return s.takeBlock(class.Of(size))
}

// takeRun takes the lowest row of n free pages.
func (s *Space) takeRun(n int) (int, api.Fault) {
	page, errno := s.pages.TakeRun(n)
	if errno != api.OK {
		return 0, api.Fault{Err: api.ErrFull}
	}
	return page * api.PageWords, api.Fault{}
}

// takeBlock takes the lowest free block of a class, or the first one of a new page.
func (s *Space) takeBlock(c int) (int, api.Fault) {
	at := s.free[c].Next(0)
	if at < 0 {
		return s.takePage(c)
	}
	// The link is held against the set, and leads nowhere itself.
	if s.words[at] != value.Link(s.free[c].Next(at+1)) {
		return 0, api.Fault{Err: api.ErrCorrupt, At: at}
	}
	s.free[c].Clear(at)
	return at, api.Fault{}
}

// takePage takes a page for a class that has no free block, and of its blocks the first one; the others are the class's free ones.
func (s *Space) takePage(c int) (int, api.Fault) {
	page, errno := s.pages.TakeClass(c)
	if errno != api.OK {
		return 0, api.Fault{Err: api.ErrFull}
	}
	at := page * api.PageWords
	clear(s.words[at : at+api.PageWords])
	s.freeUp(page, c)
	s.free[c].Clear(at)
	s.link(c)
	return at, api.Fault{}
}

// number gives an object of a kind its serial; 0: it has none.
func (s *Space) number(kind int) int {
	if !layout.Numbered(kind) {
		return 0
	}
	s.last++
	return s.last
}

// enter puts an object into the side tables and into its room, where nothing else is left.
func (s *Space) enter(b api.Block) {
	s.objects[b.At] = b
	s.places.Set(b.At)
	if b.Serial > 0 {
		s.serials[b.Serial] = b.At
	}
	clear(s.words[b.At : b.At+room(b.Size)])
	s.words[b.At] = header.Make(b.At, b.Kind, b.Size)
}

// plan is a row of takings that are thought of, not made.
type plan struct {
	space *Space
	table *pages.Table // a copy of the space's; nil, as long as no page is needed
	from  [classes]int // the free blocks of a class from there on are not spoken for
	fresh [classes]int // neither are so many of the pages that the class would have taken
}

// Fits tells whether objects of these sizes could be taken, one behind the other.
func (s *Space) Fits(sizes ...int) bool {
	p := plan{space: s.self()}
	for _, size := range sizes {
		if !p.take(size) {
			return false
		}
	}
	return true
}

// take tells whether an object still fits, and speaks for its room.
func (p *plan) take(size int) bool {
	if n := class.Pages(size); n > 0 {
		_, errno := p.pages().TakeRun(n)
		return errno == api.OK
	}
	c := class.Of(size)
	return c >= 0 && p.takeBlock(c)
}

// takeBlock is take for a block of a class. (Where a page has been taken for the class, no free block was left.)
func (p *plan) takeBlock(c int) bool {
	if p.fresh[c] > 0 {
		p.fresh[c]--
		return true
	}
	if at := p.space.free[c].Next(p.from[c]); at >= 0 {
		p.from[c] = at + 1
		return true
	}
	if _, errno := p.pages().TakeClass(c); errno != api.OK {
		return false
	}
	p.fresh[c] = class.Blocks(c) - 1
	return true
}

// pages is the table of which the plan takes pages. It is copied late: most plans need no page.
func (p *plan) pages() *pages.Table {
	if p.table == nil {
		p.table = p.space.pages.Copy()
	}
	return p.table
}
