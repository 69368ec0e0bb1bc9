package simplex

import (
	"slices"

	"pylon/api"
)

// A search moves from dictionary to dictionary.
type search struct {
	dictionary
	p      api.LP
	start  []int // the basis in which the phase began
	last   move
	pivots int
}

func newSearch(p api.LP) *search {
	return &search{dictionary: newDictionary(p), p: p}
}

// A phase is a sequence of moves with the same objectives.
type phase struct {
	objectives []objective
	next       func() move
}

// phases returns the two phases. In the first one, the basis is optimal from the start, and the dual simplex method makes it
// feasible; where the objectives do not favour any variable, nothing remains for the second one, the primal simplex method.
func (s *search) phases() []phase {
	all := objectives(s.p)
	return []phase{{modest(all), s.repair}, {all, s.improve}}
}

// run searches the optimal basis and returns the result.
func (s *search) run() api.Result {
	result := s.optimal
pivoting:
	for _, now := range s.phases() {
		s.pursue(now.objectives)
		s.start = slices.Clone(s.basic)
		for {
			s.last = now.next()
			switch {
			case s.last.row == none && s.last.place == none:
				continue pivoting
			case s.last.place == none:
				result = s.infeasible
				break pivoting
			case s.last.row == none:
				result = s.unbounded
				break pivoting
			}
			s.exchange(s.last.row, s.last.place)
			s.pivots++
		}
	}
	return result()
}
