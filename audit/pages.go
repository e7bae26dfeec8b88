package audit

import (
	"hearth/api"
	"hearth/class"
	"hearth/value"
)

// pages tells the pages that fit neither what stands in them nor their neighbours.
func (l *look) pages() []api.Finding {
	var found []api.Finding
	head := 0 // the last page that is no rest: the run of a rest can begin nowhere else
	for p, page := range l.dump.Pages {
		if page.Kind != api.PageRest {
			head = p
		}
		if !l.fits(p, head) {
			found = append(found, api.Finding{At: p, What: api.FindPage})
		}
	}
	return found
}

// fits tells whether a page is right, where head is the last page up to it that is no rest.
func (l *look) fits(p, head int) bool {
	page := l.dump.Pages[p]
	switch page {
	case api.Page{Kind: api.PageFree}:
		return true
	case api.Page{Kind: api.PageClass, Class: page.Class}:
		return l.inhabited(p)
	case api.Page{Kind: api.PageHead, Run: page.Run}:
		return l.headed(p)
	case api.Page{Kind: api.PageRest}:
		first := l.dump.Pages[head]
		return first == api.Page{Kind: api.PageHead, Run: first.Run} && first.Run > p-head
	}
	return false
}

// inhabited tells whether a block stands in a page. (In a page of what is no class none does.)
func (l *look) inhabited(p int) bool {
	i := l.from(p * api.PageWords)
	return i < len(l.blocks) && l.blocks[i].At/api.PageWords == p
}

// headed tells whether a large block stands in the pages from p on, all of which but the first one are rests. (That p's run is as long as the block asks for is known: it stands.)
func (l *look) headed(p int) bool {
	b, ok := l.block(p * api.PageWords)
	end := p + class.Pages(b.Size)
	if !ok || end > len(l.dump.Pages) {
		return false
	}
	for _, page := range l.dump.Pages[p+1 : end] {
		if page.Kind != api.PageRest {
			return false
		}
	}
	return true
}

// free tells the links and heads that do not lead to the next free blocks of their classes.
func (l *look) free() []api.Finding {
	var found []api.Finding
	for c, head := range l.dump.Heads {
		first, wrong := l.links(c)
		found = append(found, wrong...)
		if first != head {
			found = append(found, api.Finding{At: c, What: api.FindHead})
		}
	}
	return found
}

// links goes over the free blocks of a class from the last one on, since each link leads to the one behind it; and tells the first one, -1, if there is none.
func (l *look) links(c int) (next int, found []api.Finding) {
	next = -1
	for p := len(l.dump.Pages) - 1; p >= 0; p-- {
		if l.dump.Pages[p] != (api.Page{Kind: api.PageClass, Class: c}) {
			continue
		}
		for i := class.Blocks(c) - 1; i >= 0; i-- {
			at := p*api.PageWords + class.Start(c, i)
			if _, taken := l.block(at); taken {
				continue
			}
			if l.dump.Words[at] != value.Link(next) {
				found = append(found, api.Finding{At: at, What: api.FindLink})
			}
			next = at
		}
	}
	return next, found
}
