package audit

import (
	"cmp"
	"slices"

	"hearth/api"
	"hearth/class"
	"hearth/layout"
)

// stand tells the blocks that stand, by rising places, and what is wrong with the others. A block that does not stand still bars all places up to its own for those behind it.
func stand(d api.Dump) (blocks []api.Block, found []api.Finding) {
	top := -1
	for _, b := range d.Blocks {
		if b.At > top && placed(d, b) {
			blocks = append(blocks, b)
		} else {
			found = append(found, api.Finding{At: b.At, What: api.FindBlock})
		}
		top = max(top, b.At)
	}
	return blocks, found
}

// placed tells whether a block whose place is not below 0 is well placed.
func placed(d api.Dump, b api.Block) bool {
	page, offset := b.At/api.PageWords, b.At%api.PageWords
	if !layout.Fits(b.Kind, b.Size) || page >= len(d.Pages) {
		return false
	}
	c := class.Of(b.Size)
	if c < large {
		return d.Pages[page] == api.Page{Kind: api.PageClass, Class: c} && class.Index(c, offset) >= 0
	}
	run := api.Page{Kind: api.PageHead, Run: class.Pages(b.Size)}
	return offset == 0 && d.Pages[page] == run && b.At+b.Size <= len(d.Words)
}

// large is what class.Of tells of sizes that are no class's.
const large = 8

// look is a dump that is looked over, with those of its blocks that stand.
type look struct {
	dump   api.Dump
	blocks []api.Block // by rising places
}

// from is the number of the first block that stands at a place, or above it.
func (l *look) from(at int) int {
	i, _ := slices.BinarySearchFunc(l.blocks, at, func(b api.Block, at int) int { return cmp.Compare(b.At, at) })
	return i
}

// block is the one that stands at a place.
func (l *look) block(at int) (api.Block, bool) {
	i := l.from(at)
	if i == len(l.blocks) || l.blocks[i].At != at {
		return api.Block{}, false
	}
	return l.blocks[i], true
}

// serials tells the blocks whose serials are not right. The serial of a spine or an entry, which has none, counts as given all the same.
func (l *look) serials() []api.Finding {
	var found []api.Finding
	given := map[int]int{}
	for _, b := range l.blocks {
		right := b.Serial == 0
		if layout.Numbered(b.Kind) {
			right = b.Serial >= 1 && b.Serial <= l.dump.Serial && given[b.Serial] == 0
		}
		if !right {
			found = append(found, api.Finding{At: b.At, What: api.FindSerial})
		}
		given[b.Serial]++
	}
	return found
}
