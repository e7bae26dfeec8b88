package sweep

import (
	"slices"

	"hearth/api"
)

// take looks at the marks; false: they are none of this heap.
func (s *sweeping) take() bool {
	m := s.marks
	if !rises(m.Live) || !rises(m.Dead) || !rises(m.Weak) || !s.takeLive() {
		return false
	}
	if !s.alive(m.Dead, api.KindEph, api.KindEntry) || !s.alive(m.Weak, api.KindWeak) {
		return false
	}
	s.dead = map[int]int{}
	for _, at := range m.Dead {
		s.dead[at] = s.live[at]
	}
	return true
}

// rises tells whether each number of a list is above the one ahead of it.
func rises(list []int) bool {
	for i := 1; i < len(list); i++ {
		if list[i-1] >= list[i] {
			return false
		}
	}
	return true
}

// takeLive finds the kinds of what is live; false: at one of the places no object begins.
func (s *sweeping) takeLive() bool {
	s.live = map[int]int{}
	for _, at := range s.marks.Live {
		b, ok := s.heap.Block(at)
		if !ok {
			return false
		}
		s.live[at] = b.Kind
	}
	return true
}

// alive tells whether at each place of a list stands a live object of one of these kinds.
func (s *sweeping) alive(list []int, kinds ...int) bool {
	for _, at := range list {
		if !slices.Contains(kinds, s.live[at]) {
			return false
		}
	}
	return true
}
