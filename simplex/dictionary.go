package simplex

import (
	"slices"

	"pylon/api"
	"pylon/frac"
	"pylon/mat"
	"pylon/vec"
)

// A dictionary holds the equations of a program solved for the basic columns. Columns are numbered as in a tableau, the variables
// before the slack variables of the constraints. The columns that are not basic are free; a basic one needs no room in the rows.
// All numbers are canonical and share no memory with the program, so that results may consist of them.
type dictionary struct {
	vars  int
	basic []int     // the basic column of each row
	free  []int     // the free columns, in the order of the elements of a row
	rows  [][]api.Q // their elements at the free columns, each followed by its right-hand side
	costs [][]api.Q // for each objective the reduced costs of the free columns, followed by its value if there are rows
}

// newDictionary returns the dictionary of a valid program in which the slack variables are basic.
func newDictionary(p api.LP) dictionary {
	d := dictionary{vars: p.Vars}
	for k := range p.Vars {
		d.free = append(d.free, k)
	}
	for i, row := range p.Rows {
		d.basic = append(d.basic, p.Vars+i)
		d.rows = append(d.rows, append(vec.Resize(row, p.Vars), frac.Canonical(p.Bounds[i])))
	}
	return d
}

// limit returns the right-hand side of a row.
func (d *dictionary) limit(row int) api.Q {
	return d.rows[row][len(d.free)]
}

// at returns the element of a row in any column.
func (d *dictionary) at(row, column int) api.Q {
	if place := slices.Index(d.free, column); place >= 0 {
		return d.rows[row][place]
	}
	if d.basic[row] == column {
		return frac.FromInt64(1)
	}
	return api.Q{}
}

// pursue computes the reduced costs of other objectives.
func (d *dictionary) pursue(objectives []objective) {
	d.costs = make([][]api.Q, 0, len(objectives))
	for _, o := range objectives {
		var basic, free []api.Q
		for _, column := range d.basic {
			basic = append(basic, o.coefficient(column))
		}
		for _, column := range d.free {
			free = append(free, o.coefficient(column))
		}
		d.costs = append(d.costs, vec.Sub(mat.VecMul(basic, d.rows), free))
	}
}

// cost returns the element at index i of the reduced cost of the free column at the given place. The elements after those for the
// objectives belong to the negated variables; they follow from the rows and are not kept.
func (d *dictionary) cost(i, place int) api.Q {
	if i < len(d.costs) {
		return d.costs[i][place]
	}
	variable := i - len(d.costs)
	if d.free[place] == variable {
		return frac.FromInt64(1)
	}
	if row := slices.Index(d.basic, variable); row >= 0 {
		return frac.Neg(d.rows[row][place])
	}
	return api.Q{}
}

// costLength returns the number of elements of a reduced cost.
func (d *dictionary) costLength() int {
	return len(d.costs) + d.vars
}

// costSign returns -1, 0 or 1 if the reduced cost of the free column at the given place is negative, zero or positive.
func (d *dictionary) costSign(place int) int {
	for i := range d.costLength() {
		if sign := frac.Sign(d.cost(i, place)); sign != 0 {
			return sign
		}
	}
	return 0
}

// compareCosts returns -1, 0 or 1 if a times the reduced cost at the first place is less than, equal to or greater than b times that
// at the second place.
func (d *dictionary) compareCosts(a api.Q, first int, b api.Q, second int) int {
	for i := range d.costLength() {
		if order := compareProducts(a, d.cost(i, first), b, d.cost(i, second)); order != 0 {
			return order
		}
	}
	return 0
}

// compareProducts compares a x with b y. Most factors are 0.
func compareProducts(a, x, b, y api.Q) int {
	if frac.Sign(x) == 0 && frac.Sign(y) == 0 {
		return 0
	}
	return frac.Cmp(frac.Mul(a, x), frac.Mul(b, y))
}

// exchange makes the free column at the given place basic, in place of the basic column of the row.
func (d *dictionary) exchange(row, place int) {
	inverse, _ := frac.Div(frac.FromInt64(1), d.rows[row][place])
	solved := vec.Scale(inverse, d.rows[row])
	solved[place] = inverse
	d.rows[row] = solved
	for i, old := range d.rows {
		if i != row {
			d.rows[i] = substitute(old, place, solved)
		}
	}
	for i, old := range d.costs {
		d.costs[i] = substitute(old, place, solved)
	}
	d.basic[row], d.free[place] = d.free[place], d.basic[row]
}

// substitute replaces the free column at the given place by the column that takes its place, using the row that is solved for it.
func substitute(old []api.Q, place int, solved []api.Q) []api.Q {
	factor := old[place]
	if frac.Sign(factor) == 0 {
		return old
	}
	others := slices.Clone(old)
	others[place] = api.Q{}
	return vec.AddScaled(frac.Neg(factor), solved, others)
}
