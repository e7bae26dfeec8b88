package hearth

import "hearth/api"

// mostForced is how many numbers a line of forced collections has at most.
const mostForced = 50

// setPages says how many pages there are.
func (s *shell) setPages(words []string) (string, bool) {
	n, right := naturals(words, 1, 1)
	if right {
		s.settings.Pages = n[0]
	}
	return "", right
}

// setFuel says how far runs may go.
func (s *shell) setFuel(words []string) (string, bool) {
	n, right := naturals(words, 1, 1)
	if right {
		s.settings.Fuel = n[0]
	}
	return "", right
}

// force adds forced collections: all of the line, or none.
func (s *shell) force(words []string) (string, bool) {
	list, right := naturals(words, 1, mostForced)
	if !right || len(s.settings.Force)+len(list) > api.MaxForce {
		return "", false
	}
	s.settings.Force = append(s.settings.Force, list...)
	return "", true
}

// poke adds a corruption.
func (s *shell) poke(words []string) (string, bool) {
	if len(words) != 3 || len(s.settings.Pokes) == api.MaxPokes {
		return "", false
	}
	where, right := naturals(words[:2], 2, 2)
	word, whole := number(words[2])
	if !right || !whole {
		return "", false
	}
	s.settings.Pokes = append(s.settings.Pokes, api.Poke{Step: where[0], At: where[1], Word: word})
	return "", true
}

// clear takes all forced collections and all corruptions back.
func (s *shell) clear(words []string) (string, bool) {
	if len(words) != 0 {
		return "", false
	}
	s.settings.Force, s.settings.Pokes = nil, nil
	return "", true
}
