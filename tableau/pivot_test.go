package tableau_test

import (
	"math"
	"slices"
	"testing"

	"pylon/api"
	"pylon/frac"
	"pylon/tableau"
)

// wantPivots tries all pivots of a tableau, also at places that it does not have.
func wantPivots(t *testing.T, l *tableau.Tableau, p api.LP, count map[api.Errno]int) {
	t.Helper()
	basis, rows := l.Basis(), l.Rows()
	columns := p.Vars + len(p.Rows)
	for row := -2; row <= len(rows)+1; row++ {
		for col := -2; col <= columns+1; col++ {
			want := api.OK
			switch {
			case row < 0 || row >= len(rows) || col < 0 || col >= columns || slices.Contains(basis, col):
				want = api.ErrArg
			case frac.Sign(rows[row][col]) == 0:
				want = api.ErrZero
			}
			count[want]++
			next := l.Clone()
			if e := next.Pivot(row, col); e != want {
				t.Fatalf("Pivot(%d, %d) returns error %d for the basis %v of %s, want %d", row, col, e, basis, text(p), want)
			}
			after := slices.Clone(basis)
			if want == api.OK {
				after[row] = col
			}
			wantTableau(t, next, p, after)
		}
	}
	wantTableau(t, l, p, basis)
}

func TestP71Pivot(t *testing.T) {
	count := map[api.Errno]int{}
	for _, p := range valid() {
		if p.Vars > 4 {
			continue
		}
		g := generator(713)
		l := started(t, formP(p, 1))
		for range 5 {
			wantPivots(t, l, p, count)
			wander(t, g, l, 1)
		}
	}
	if count[api.OK] < 50 || count[api.ErrArg] < 500 || count[api.ErrZero] < 50 {
		t.Errorf("errors have been expected as often as %v says", count)
	}
}

func TestP71PivotRandom(t *testing.T) {
	g, count := generator(714), map[api.Errno]int{}
	for range 200 {
		p := randomP(g)
		l := started(t, formP(p, g.IntN(4)))
		wander(t, g, l, g.IntN(6))
		wantPivots(t, l, p, count)
	}
	if count[api.OK] < 100 || count[api.ErrArg] < 1000 || count[api.ErrZero] < 100 {
		t.Errorf("errors have been expected as often as %v says", count)
	}
}

func TestP71PivotErrors(t *testing.T) {
	p := sample()
	l := started(t, p)
	var none *tableau.Tableau
	for _, x := range []struct {
		row, col int
		want     api.Errno
	}{
		{-1, 0, api.ErrArg}, {math.MinInt, 0, api.ErrArg}, {3, 0, api.ErrArg}, {4, 0, api.ErrArg}, {5, 1, api.ErrArg}, {math.MaxInt, 0, api.ErrArg}, {0, -1, api.ErrArg}, {0, math.MinInt, api.ErrArg}, {0, 5, api.ErrArg}, {2, 6, api.ErrArg}, {0, math.MaxInt, api.ErrArg},
		{-1, -1, api.ErrArg}, {3, 5, api.ErrArg}, {-1, 5, api.ErrArg}, {math.MaxInt, math.MinInt, api.ErrArg},
		// A basic column, also where the row has the element 0, and where there is no such row.
		{0, 2, api.ErrArg}, {1, 3, api.ErrArg}, {2, 4, api.ErrArg}, {1, 2, api.ErrArg}, {0, 4, api.ErrArg}, {3, 2, api.ErrArg}, {-1, 4, api.ErrArg},
		{0, 1, api.ErrZero}, {1, 0, api.ErrZero},
	} {
		for range 2 {
			if e := l.Pivot(x.row, x.col); e != x.want {
				t.Errorf("Pivot(%d, %d) returns error %d, want %d", x.row, x.col, e, x.want)
			}
			wantTableau(t, l, p, []int{2, 3, 4})
		}
		if e := none.Pivot(x.row, x.col); e != api.ErrNil {
			t.Errorf("Pivot(%d, %d) of nil returns error %d", x.row, x.col, e)
		}
		if e := new(tableau.Tableau).Pivot(x.row, x.col); e != api.ErrNil {
			t.Errorf("Pivot(%d, %d) of a zero value returns error %d", x.row, x.col, e)
		}
	}
	// What is not basic any more may enter again, and what is basic now may not.
	for _, x := range []struct {
		row, col int
		want     api.Errno
		basis    []int
	}{
		{1, 1, api.OK, []int{2, 1, 4}}, {2, 1, api.ErrArg, []int{2, 1, 4}}, {1, 1, api.ErrArg, []int{2, 1, 4}}, {2, 3, api.OK, []int{2, 1, 3}}, {1, 3, api.ErrArg, []int{2, 1, 3}}, {0, 4, api.ErrZero, []int{2, 1, 3}}, {0, 0, api.OK, []int{0, 1, 3}}, {1, 2, api.OK, []int{0, 2, 3}}, {0, 1, api.OK, []int{1, 2, 3}},
	} {
		if e := l.Pivot(x.row, x.col); e != x.want {
			t.Errorf("Pivot(%d, %d) returns error %d, want %d", x.row, x.col, e, x.want)
		}
		wantTableau(t, l, p, x.basis)
	}
}

// A program without rows or without columns allows no pivot.
func TestP71PivotNowhere(t *testing.T) {
	for _, p := range []api.LP{program(0, ";", "", ""), program(3, "1;", "", ""), program(0, ";", "; ;", "1 2")} {
		l := started(t, p)
		for row := -1; row <= 3; row++ {
			for col := -1; col <= 4; col++ {
				if e := l.Pivot(row, col); e != api.ErrArg {
					t.Errorf("Pivot(%d, %d) returns error %d for %s", row, col, e, text(p))
				}
			}
		}
		wantTableau(t, l, p, slacks(p))
	}
}

// A tableau that has been copied by assignment goes its own way, too.
func TestP71PivotOfCopy(t *testing.T) {
	l := started(t, sample())
	copied := *l
	if e := copied.Pivot(1, 1); e != api.OK {
		t.Errorf("Pivot(1, 1) returns error %d", e)
	}
	wantTableau(t, l, sample(), []int{2, 3, 4})
	wantTableau(t, &copied, sample(), []int{2, 1, 4})
}

func TestP71PivotLimits(t *testing.T) {
	p := largest()
	l := started(t, p)
	basis := slacks(p)
	for _, x := range []place{{api.MaxRows - 1, api.MaxCols - 1}, {0, 0}, {api.MaxCols, 1}, {0, api.MaxCols}, {api.MaxRows - 1, api.MaxCols + api.MaxRows - 1}} {
		if e := l.Pivot(x.row, x.col); e != api.OK {
			t.Fatalf("Pivot(%d, %d) returns error %d", x.row, x.col, e)
		}
		basis[x.row] = x.col
	}
	wantTableau(t, l, p, basis)
	for _, x := range []place{{api.MaxRows, 2}, {2, api.MaxCols + api.MaxRows}} {
		if e := l.Pivot(x.row, x.col); e != api.ErrArg {
			t.Errorf("Pivot(%d, %d) returns error %d", x.row, x.col, e)
		}
	}
}
