package simplex

import (
	"iter"

	"pylon/api"
	"pylon/frac"
)

// none stands for a row or a place that does not exist.
const none = -1

// A move exchanges the basic column of a row with the free column at a place. Without a place it says that the row cannot be
// satisfied, without a row that the column can grow forever, and without both that nothing is left to do.
type move struct {
	row, place int
	size       api.Q // the value that the free column takes
}

// repair returns the move of the dual simplex method that loses most, because such a loss is inevitable. As no reduced cost is ever 0,
// every move loses, and no basis returns.
func (s *search) repair() move {
	best := move{row: none, place: none}
	for row := range s.rows {
		if frac.Sign(s.limit(row)) >= 0 {
			continue
		}
		place := s.cheapest(row)
		if place == none {
			return move{row: row, place: none}
		}
		next := s.moveAt(row, place)
		if best.row == none || s.compareCosts(next.size, place, best.size, best.place) > 0 {
			best = next
		}
	}
	return best
}

// cheapest returns the place of the column that can satisfy a violated row without making a reduced cost negative.
func (s *search) cheapest(row int) int {
	best := none
	helps := func(place int) bool { return frac.Sign(s.rows[row][place]) < 0 }
	for place := range s.candidates(helps) {
		if best == none || s.isCheaper(row, place, best) {
			best = place
		}
	}
	return best
}

// isCheaper compares the reduced costs of two columns, each divided by its negated, positive element in the row.
func (s *search) isCheaper(row, place, other int) bool {
	a, b := frac.Neg(s.rows[row][other]), frac.Neg(s.rows[row][place])
	return s.compareCosts(a, place, b, other) < 0
}

// improve returns the move of the primal simplex method that gains most, and among equal ones that with the least reduced cost.
func (s *search) improve() move {
	best := move{row: none, place: none}
	one := frac.FromInt64(1)
	gains := func(place int) bool { return s.costSign(place) < 0 }
	for place := range s.candidates(gains) {
		row := s.tightest(place)
		if row == none {
			return move{row: none, place: place}
		}
		next := s.moveAt(row, place)
		if best.row == none {
			best = next
			continue
		}
		order := s.compareCosts(next.size, place, best.size, best.place)
		if order < 0 || order == 0 && s.compareCosts(one, place, one, best.place) < 0 {
			best = next
		}
	}
	return best
}

// tightest returns the row that limits the column at the given place first. Where several do, the columns in which the phase began
// decide: the rows, read as their right-hand sides and then these columns, remain lexicographically positive, and no basis returns.
func (s *search) tightest(place int) int {
	best := none
	for row, elements := range s.rows {
		if frac.Sign(elements[place]) > 0 && (best == none || s.isTighter(row, best, place)) {
			best = row
		}
	}
	return best
}

// isTighter reports whether one row limits the column at the given place before another row.
func (s *search) isTighter(row, other, place int) bool {
	a, b := s.rows[other][place], s.rows[row][place]
	order := compareProducts(a, s.limit(row), b, s.limit(other))
	for _, column := range s.start {
		if order != 0 {
			break
		}
		order = compareProducts(a, s.at(row, column), b, s.at(other, column))
	}
	return order < 0
}

// moveAt returns the move that exchanges the basic column of the row with the free column at the given place.
func (s *search) moveAt(row, place int) move {
	size, _ := frac.Div(s.limit(row), s.rows[row][place])
	return move{row: row, place: place, size: size}
}

// candidates visits the places of the free columns that pass a test.
func (s *search) candidates(passes func(place int) bool) iter.Seq[int] {
	return func(yield func(place int) bool) {
		for place := range s.free {
			if passes(place) && !yield(place) {
				return
			}
		}
	}
}
