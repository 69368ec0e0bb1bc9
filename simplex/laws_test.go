package simplex_test

import (
	"math/rand/v2"
	"slices"
	"testing"

	"pylon/api"
	"pylon/frac"
	"pylon/lp"
)

// copied returns a copy of p whose lists of vectors and right-hand sides can be changed.
func copied(p api.LP) api.LP {
	return api.LP{Vars: p.Vars, Objectives: slices.Clone(p.Objectives), Rows: slices.Clone(p.Rows), Bounds: slices.Clone(p.Bounds)}
}

// positive returns a positive rational.
func positive(g *rand.Rand) api.Q {
	for {
		if x := frac.Abs(randomQ(g)); frac.Sign(x) != 0 {
			return x
		}
	}
}

// scaled returns the product of k and a.
func scaled(k api.Q, a []api.Q) []api.Q {
	var b []api.Q
	for _, x := range a {
		b = append(b, frac.Mul(k, x))
	}
	return b
}

// plus returns the sum of a and k times b, as long as the longer one.
func plus(a []api.Q, k api.Q, b []api.Q) []api.Q {
	c := make([]api.Q, max(len(a), len(b)))
	for i := range c {
		c[i] = frac.Add(at(a, i), frac.Mul(k, at(b, i)))
	}
	return c
}

// changes are the changes of a program that do not affect its kind and its optimal point.
var changes = []struct {
	name   string
	change func(g *rand.Rand, p api.LP) api.LP
}{
	{"the order of the constraints", func(g *rand.Rand, p api.LP) api.LP {
		g.Shuffle(len(p.Rows), func(i, k int) {
			p.Rows[i], p.Rows[k] = p.Rows[k], p.Rows[i]
			p.Bounds[i], p.Bounds[k] = p.Bounds[k], p.Bounds[i]
		})
		return p
	}},
	{"scaling constraints", func(g *rand.Rand, p api.LP) api.LP {
		for i := range p.Rows {
			k := positive(g)
			p.Rows[i], p.Bounds[i] = scaled(k, p.Rows[i]), frac.Mul(k, p.Bounds[i])
		}
		return p
	}},
	{"scaling objectives", func(g *rand.Rand, p api.LP) api.LP {
		for i := range p.Objectives {
			p.Objectives[i] = scaled(positive(g), p.Objectives[i])
		}
		return p
	}},
	{"duplicating a constraint", func(g *rand.Rand, p api.LP) api.LP {
		if len(p.Rows) > 0 {
			i, k := g.IntN(len(p.Rows)), g.IntN(len(p.Rows)+1)
			p.Rows, p.Bounds = slices.Insert(p.Rows, k, p.Rows[i]), slices.Insert(p.Bounds, k, p.Bounds[i])
		}
		return p
	}},
	{"adding a multiple of an earlier objective to a later one", func(g *rand.Rand, p api.LP) api.LP {
		if later := g.IntN(len(p.Objectives)); later > 0 {
			p.Objectives[later] = plus(p.Objectives[later], randomQ(g), p.Objectives[g.IntN(later)])
		}
		return p
	}},
}

// anyProgram returns a program of one of the sorts.
func anyProgram(g *rand.Rand) api.LP {
	return []func(g *rand.Rand) api.LP{randomP, tied, middling}[g.IntN(3)](g)
}

func TestP83Changes(t *testing.T) {
	for i, law := range changes {
		g, kinds := generator(uint64(8310+i)), map[uint8]int{}
		for range 400 {
			p := anyProgram(g)
			other := law.change(g, copied(p))
			a, b := solved(t, p), solved(t, other)
			kinds[a.Kind]++
			if a.Kind != b.Kind {
				t.Errorf("%s changes the kind from %d to %d: %s; %s", law.name, a.Kind, b.Kind, text(p), text(other))
			}
			if a.Kind == api.Optimal {
				wantV(t, "after "+law.name+", the optimal point", b.X, a.X)
			}
		}
		wantKinds(t, kinds, 40)
	}
}

// TestP83Satisfied adds constraints that the optimal point satisfies, some of them without slack.
func TestP83Satisfied(t *testing.T) {
	g, added := generator(832), 0
	for range 600 {
		p := anyProgram(g)
		r := solved(t, p)
		if r.Kind != api.Optimal {
			continue
		}
		row := randomV(g, p.Vars)
		slack := frac.Abs(randomQ(g))
		longer, e := lp.AddConstraint(p, row, frac.Add(dot(row, r.X), slack))
		if e != api.OK {
			t.Fatalf("AddConstraint returns error %d", e)
		}
		wantOptimal(t, longer, show(r.X))
		added++
	}
	if added < 200 {
		t.Errorf("only %d constraints have been added", added)
	}
}

// TestP83Duality compares programs with their duals, whose status and value are related.
func TestP83Duality(t *testing.T) {
	g, kinds := generator(833), map[uint8]int{}
	for range 600 {
		p, _ := lp.SingleObjective(anyProgram(g), 0)
		dual, e := lp.Dual(p)
		if e != api.OK {
			t.Fatalf("Dual returns error %d", e)
		}
		a, b := solved(t, p), solved(t, dual)
		kinds[a.Kind]++
		switch {
		case a.Kind == api.Optimal && b.Kind == api.Optimal:
			sum := frac.Add(values(p, a.X)[0], values(dual, b.X)[0])
			wantV(t, "the sum of the values of a program and its dual", []api.Q{sum}, v("0"))
		case a.Kind == api.Optimal || b.Kind == api.Optimal || a.Kind == api.Unbounded && b.Kind == api.Unbounded:
			t.Errorf("a program has kind %d and its dual kind %d: %s", a.Kind, b.Kind, text(p))
		}
	}
	wantKinds(t, kinds, 60)
}
