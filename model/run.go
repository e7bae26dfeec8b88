package model

import "hearth/api"

// Run plays a program with collections at these boundaries, to its end, or as far as the fuel goes; memory: the boundary at which it runs out of memory; below 0: none.
func Run(program []byte, fuel int, collections []int, memory int) api.Outcome {
	if fuel < 0 || fuel > api.MaxFuel {
		return rejected(api.ErrArg, 0, 0)
	}
	m := New(program)
	often := counted(collections)
	for m.Running() {
		s := m.Steps()
		if s == fuel {
			m.Stop(api.OutOfFuel)
			break
		}
		for range often[s] {
			m.Collect()
		}
		if s == memory {
			m.Stop(api.OutOfMemory)
			break
		}
		m.Step()
	}
	return m.Outcome()
}

// counted is how often each number stands in a list.
func counted(numbers []int) map[int]int {
	often := make(map[int]int)
	for _, n := range numbers {
		often[n]++
	}
	return often
}
