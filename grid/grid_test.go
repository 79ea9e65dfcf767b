package grid

import (
	"math"
	"slices"
	"testing"

	"joust/api"
)

// least is a Config with each field at its lower bound.
func least() api.Config { return api.Config{Cols: 1, Rows: 1, Players: 1, Window: 1} }

// most is a Config with each field at its upper bound.
func most() api.Config { return api.Config{Cols: 4, Rows: 4, Players: 6, Window: 16} }

// told is New's grid of so many columns and rows.
func told(t *testing.T, cols, rows int) Grid {
	t.Helper()
	c := api.Config{Cols: cols, Rows: rows, Players: 2, Window: 4, Seed: 9}
	g, e := New(c)
	if e != api.OK || g.Config != c {
		t.Fatalf("P3.1: New(%+v): %+v, error %d; want a grid of it", c, g, e)
	}
	return g
}

// eachGrid goes through the grids of all columns and rows that there may be.
func eachGrid(t *testing.T, check func(g Grid, cols, rows int)) {
	t.Helper()
	for cols := 1; cols <= 4; cols++ {
		for rows := 1; rows <= 4; rows++ {
			check(told(t, cols, rows), cols, rows)
		}
	}
}

// field is one field of a Config that New holds against its bounds, and its upper bound.
type field struct {
	name string
	most int
	of   func(c *api.Config) *int
}

func fields() []field {
	return []field{
		{"Cols", 4, func(c *api.Config) *int { return &c.Cols }},
		{"Rows", 4, func(c *api.Config) *int { return &c.Rows }},
		{"Players", 6, func(c *api.Config) *int { return &c.Players }},
		{"Window", 16, func(c *api.Config) *int { return &c.Window }},
	}
}

// beyond is numbers below 1 and above the bound, those right beside them and the ends of int among them.
func beyond(bound int) []int {
	return []int{0, -1, -bound, bound + 1, 2 * bound, 1 << 32, 1 << 61, 1 << 62, -1 << 62, math.MaxInt, math.MinInt, math.MinInt + 1}
}

// places is numbers at which something may turn: walls of arenas and regions, those beside them, and the ends of int.
func places() []int {
	l := []int{math.MinInt, math.MinInt + 1, -1 << 32, -1024, -1, 1 << 31, 1 << 32, 1 << 62, math.MaxInt - 1, math.MaxInt}
	for k := 0; k <= 5; k++ {
		l = append(l, k*1024-1, k*1024, k*1024+1, k*1024+512)
	}
	return l
}

func TestNewWithinBounds(t *testing.T) {
	for _, base := range []api.Config{least(), most(), {Cols: 3, Rows: 2, Players: 2, Window: 4, Seed: 9}} {
		for _, f := range fields() {
			for v := 1; v <= f.most; v++ {
				c := base
				*f.of(&c) = v
				if g, e := New(c); e != api.OK || g.Config != c || g.Regions() != c.Cols*c.Rows {
					t.Errorf("P3.1: New(%+v): %+v with %d regions, error %d; want a grid of it", c, g, g.Regions(), e)
				}
			}
		}
	}
}

// TestNewAnySeed: no Seed is refused, and it is kept.
func TestNewAnySeed(t *testing.T) {
	for _, seed := range []uint64{0, 1, 1 << 63, math.MaxUint64} {
		c := most()
		c.Seed = seed
		if g, e := New(c); e != api.OK || g.Seed != seed {
			t.Errorf("P3.1: New with the Seed %d: Seed %d, error %d", seed, g.Seed, e)
		}
	}
}

func TestNewBeyondBounds(t *testing.T) {
	for _, base := range []api.Config{least(), most()} {
		base.Seed = 7
		for _, f := range fields() {
			for _, v := range beyond(f.most) {
				c := base
				*f.of(&c) = v
				g, e := New(c)
				if e != api.ErrConfig || g != (Grid{}) {
					t.Errorf("P3.1: New with %s %d: %+v, error %d; want nothing, error %d", f.name, v, g, e, api.ErrConfig)
				}
				checkNothing(t, g)
			}
		}
	}
	if g, e := New(api.Config{}); e != api.ErrConfig || g != (Grid{}) {
		t.Errorf("P3.1: New of nothing: %+v, error %d; want error %d", g, e, api.ErrConfig)
	}
}

// checkNothing: does each call on g answer as one on a Grid that New does not tell?
func checkNothing(t *testing.T, g Grid) {
	t.Helper()
	if g.Regions() != 0 || g.Width() != 0 || g.Height() != 0 {
		// Near of a grid with 2^61 regions would not end in a test's time.
		t.Fatalf("P3.1: of %+v: %d regions, width %d, height %d; want 0, 0, 0", g, g.Regions(), g.Width(), g.Height())
	}
	for _, v := range places() {
		for _, w := range []int{0, 1, 1023, 1024, 4095, v, -v} {
			if g.Inside(v, w) || g.Of(v, w) != 0 || g.Inside(w, v) || g.Of(w, v) != 0 {
				t.Errorf("P3.1: of %+v: Inside or Of with %d and %d tells something", g, v, w)
			}
		}
	}
	for _, r := range regionsAround() {
		if x, y := g.Corner(r); x != 0 || y != 0 || len(g.Near(r)) != 0 {
			t.Errorf("P3.1: of %+v: Corner(%d): %d, %d, Near: %v; want 0, 0, none", g, r, x, y, g.Near(r))
		}
	}
}

// regionsAround is numbers of regions that there are in some grid, and such as there are in none.
func regionsAround() []int {
	l := []int{math.MinInt, math.MinInt + 1, -1 << 32, -16, -4, -2, -1, 1 << 31, 1 << 32, 1 << 62, math.MaxInt - 1, math.MaxInt}
	for r := range 20 {
		l = append(l, r)
	}
	return l
}

// TestNotTold: a Grid whose fields were written from outside New is nothing, if New would refuse them, and else what New tells.
func TestNotTold(t *testing.T) {
	checkNothing(t, Grid{})
	var zero Grid
	zero.Seed = 5
	checkNothing(t, zero)
	for _, f := range fields() {
		for _, v := range beyond(f.most) {
			g := told(t, 3, 2)
			*f.of(&g.Config) = v
			checkNothing(t, g)
		}
	}
	g := Grid{Config: api.Config{Cols: 3, Rows: 2, Players: 2, Window: 4, Seed: 9}}
	if g != told(t, 3, 2) || g.Regions() != 6 || g.Width() != 3072 || g.Height() != 2048 || g.Of(2048, 2047) != 5 {
		t.Errorf("P3.1: a Grid of a right Config is not New's: %+v", g)
	}
}

func TestRegionsWidthHeight(t *testing.T) {
	eachGrid(t, func(g Grid, cols, rows int) {
		if g.Regions() != cols*rows || g.Width() != cols*1024 || g.Height() != rows*1024 {
			t.Errorf("P3.1: %d columns, %d rows: %d regions, width %d, height %d", cols, rows, g.Regions(), g.Width(), g.Height())
		}
		if g.Cols != cols || g.Rows != rows || g.Players != 2 || g.Window != 4 || g.Seed != 9 {
			t.Errorf("P3.1: the fields of %+v are not its Config's", g)
		}
	})
}

func TestInsideAndOf(t *testing.T) {
	rows := []struct {
		cols, rows, x, y int
		inside           bool
		of               int
	}{
		{3, 2, 0, 0, true, 0}, {3, 2, 1023, 1023, true, 0}, {3, 2, 1024, 1023, true, 1}, {3, 2, 1023, 1024, true, 3}, {3, 2, 1024, 1024, true, 4},
		{3, 2, 3071, 0, true, 2}, {3, 2, 3072, 0, false, 2}, {3, 2, 0, 2047, true, 3}, {3, 2, 0, 2048, false, 3},
		{3, 2, 3071, 2047, true, 5}, {3, 2, 3072, 2047, false, 5}, {3, 2, 3071, 2048, false, 5}, {3, 2, 3072, 2048, false, 5},
		{3, 2, -1, 0, false, 0}, {3, 2, 0, -1, false, 0}, {3, 2, -1, -1, false, 0}, {3, 2, -1, 1500, false, 3}, {3, 2, 1500, -1, false, 1},
		{3, 2, 1500, 9999, false, 4}, {3, 2, 9999, 1500, false, 5}, {3, 2, 9999, -5, false, 2}, {3, 2, -5, 9999, false, 3},
		{3, 2, math.MinInt, math.MinInt, false, 0}, {3, 2, math.MaxInt, math.MinInt, false, 2},
		{3, 2, math.MinInt, math.MaxInt, false, 3}, {3, 2, math.MaxInt, math.MaxInt, false, 5},
		{3, 2, 1500, math.MaxInt, false, 4}, {3, 2, math.MinInt, 1500, false, 3},
		// The lower 32 bits of these lie in the arena: who cuts a number to them errs.
		{3, 2, 1 << 32, 0, false, 2}, {3, 2, 0, 1<<32 + 1, false, 3}, {3, 2, -1 << 32, -1 << 32, false, 0},
		{1, 4, 1023, 4095, true, 3}, {1, 4, 1024, 1024, false, 1}, {1, 4, 0, 4096, false, 3}, {4, 1, 4095, 1023, true, 3}, {4, 1, 1024, 1024, false, 1}, {4, 1, 4096, 0, false, 3},
		{1, 1, 0, 0, true, 0}, {1, 1, 1023, 1023, true, 0}, {1, 1, 1024, 0, false, 0}, {1, 1, 0, 1024, false, 0},
		{4, 4, 4095, 4095, true, 15}, {4, 4, 4096, 4095, false, 15}, {4, 4, 2048, 1024, true, 6}, {4, 4, 1024, 2048, true, 9},
	}
	for _, r := range rows {
		g := told(t, r.cols, r.rows)
		if in, of := g.Inside(r.x, r.y), g.Of(r.x, r.y); in != r.inside || of != r.of {
			t.Errorf("P3.2: %d columns, %d rows, %d, %d: %v, %d; want %v, %d", r.cols, r.rows, r.x, r.y, in, of, r.inside, r.of)
		}
	}
}

// along is how many whole regions lie ahead of v, of so many in a row, and whether v is in one of them, by going from wall to wall.
func along(v, regions int) (int, bool) {
	k := 0
	for k < regions-1 && v >= (k+1)*1024 {
		k++
	}
	return k, v >= 0 && v < regions*1024
}

// TestEachPlace holds Inside and Of at all walls of all grids, and beyond them, against a walk from wall to wall.
func TestEachPlace(t *testing.T) {
	eachGrid(t, func(g Grid, cols, rows int) {
		for _, x := range places() {
			for _, y := range places() {
				col, inX := along(x, cols)
				row, inY := along(y, rows)
				if in, of := g.Inside(x, y), g.Of(x, y); in != (inX && inY) || of != row*cols+col {
					t.Errorf("P3.2: %d columns, %d rows, %d, %d: %v, %d; want %v, %d", cols, rows, x, y, in, of, inX && inY, row*cols+col)
				}
			}
		}
	})
}

func TestCorner(t *testing.T) {
	rows := []struct{ cols, rows, r, x, y int }{
		{3, 2, 0, 0, 0}, {3, 2, 1, 1024, 0}, {3, 2, 2, 2048, 0}, {3, 2, 3, 0, 1024}, {3, 2, 4, 1024, 1024}, {3, 2, 5, 2048, 1024},
		{3, 2, 6, 0, 0}, {3, 2, 7, 0, 0}, {3, 2, -1, 0, 0}, {3, 2, -2, 0, 0}, {3, 2, math.MinInt, 0, 0}, {3, 2, math.MaxInt, 0, 0}, {3, 2, 1<<32 + 1, 0, 0},
		{1, 4, 1, 0, 1024}, {1, 4, 3, 0, 3072}, {1, 4, 4, 0, 0}, {4, 1, 1, 1024, 0}, {4, 1, 3, 3072, 0}, {4, 1, 4, 0, 0},
		{1, 1, 0, 0, 0}, {1, 1, 1, 0, 0}, {4, 4, 15, 3072, 3072}, {4, 4, 16, 0, 0}, {2, 3, 5, 1024, 2048}, {2, 3, 6, 0, 0},
	}
	for _, r := range rows {
		if x, y := told(t, r.cols, r.rows).Corner(r.r); x != r.x || y != r.y {
			t.Errorf("P3.2: %d columns, %d rows: Corner(%d): %d, %d; want %d, %d", r.cols, r.rows, r.r, x, y, r.x, r.y)
		}
	}
}

// TestCornerIsLeast: all of a region, from its corner on, is in it; what is one less is not.
func TestCornerIsLeast(t *testing.T) {
	eachGrid(t, func(g Grid, cols, rows int) {
		for r := range cols * rows {
			x, y := g.Corner(r)
			if g.Of(x, y) != r || g.Of(x+1023, y) != r || g.Of(x, y+1023) != r || g.Of(x+1023, y+1023) != r || !g.Inside(x, y) || !g.Inside(x+1023, y+1023) {
				t.Errorf("P3.2: %d columns, %d rows: what is in region %d does not begin at %d, %d", cols, rows, r, x, y)
			}
			if x > 0 && g.Of(x-1, y) != r-1 || y > 0 && g.Of(x, y-1) != r-cols {
				t.Errorf("P3.2: %d columns, %d rows: region %d begins ahead of %d, %d", cols, rows, r, x, y)
			}
		}
	})
}

func TestNear(t *testing.T) {
	rows := []struct {
		cols, rows, r int
		want          []int
	}{
		{3, 3, 0, []int{0, 1, 3, 4}}, {3, 3, 2, []int{1, 2, 4, 5}}, {3, 3, 6, []int{3, 4, 6, 7}}, {3, 3, 8, []int{4, 5, 7, 8}},
		{3, 3, 1, []int{0, 1, 2, 3, 4, 5}}, {3, 3, 3, []int{0, 1, 3, 4, 6, 7}}, {3, 3, 5, []int{1, 2, 4, 5, 7, 8}}, {3, 3, 7, []int{3, 4, 5, 6, 7, 8}},
		{3, 3, 4, []int{0, 1, 2, 3, 4, 5, 6, 7, 8}}, {4, 4, 10, []int{5, 6, 7, 9, 10, 11, 13, 14, 15}}, {4, 4, 3, []int{2, 3, 6, 7}}, {4, 4, 4, []int{0, 1, 4, 5, 8, 9}},
		{4, 4, 7, []int{2, 3, 6, 7, 10, 11}}, {4, 4, 12, []int{8, 9, 12, 13}}, {4, 4, 15, []int{10, 11, 14, 15}},
		{1, 1, 0, []int{0}}, {1, 4, 0, []int{0, 1}}, {1, 4, 1, []int{0, 1, 2}}, {1, 4, 3, []int{2, 3}},
		{4, 1, 0, []int{0, 1}}, {4, 1, 2, []int{1, 2, 3}}, {4, 1, 3, []int{2, 3}}, {2, 2, 3, []int{0, 1, 2, 3}}, {4, 2, 4, []int{0, 1, 4, 5}}, {2, 4, 2, []int{0, 1, 2, 3, 4, 5}},
		{3, 3, 9, nil}, {3, 3, 10, nil}, {3, 3, -1, nil}, {3, 3, -3, nil}, {1, 1, 1, nil}, {1, 1, -1, nil}, {4, 4, 16, nil}, {4, 4, 17, nil},
		{3, 3, math.MinInt, nil}, {3, 3, math.MaxInt, nil}, {3, 3, 1<<32 + 4, nil}, {3, 3, 1 << 62, nil},
	}
	for _, r := range rows {
		if l := told(t, r.cols, r.rows).Near(r.r); !slices.Equal(l, r.want) {
			t.Errorf("P3.2: %d columns, %d rows: Near(%d): %v; want %v", r.cols, r.rows, r.r, l, r.want)
		}
	}
}

// TestNearOfPlaces holds Near against the regions that one finds around a region's corner, a region's size off each way.
func TestNearOfPlaces(t *testing.T) {
	eachGrid(t, func(g Grid, cols, rows int) {
		for r := range cols * rows {
			var want []int
			x, y := g.Corner(r)
			for dy := -1; dy <= 1; dy++ {
				for dx := -1; dx <= 1; dx++ {
					if ox, oy := x+dx*1024, y+dy*1024; g.Inside(ox, oy) {
						want = append(want, g.Of(ox, oy))
					}
				}
			}
			if l := g.Near(r); !slices.Equal(l, want) {
				t.Errorf("P3.2: %d columns, %d rows: Near(%d): %v; want %v", cols, rows, r, l, want)
			}
		}
	})
}

// TestNearBothWays: whoever is near to a region has that region near, and each is near to itself.
func TestNearBothWays(t *testing.T) {
	eachGrid(t, func(g Grid, cols, rows int) {
		for a := range cols * rows {
			if !slices.Contains(g.Near(a), a) {
				t.Errorf("P3.2: %d columns, %d rows: %d is not near to itself", cols, rows, a)
			}
			for b := range cols * rows {
				if slices.Contains(g.Near(a), b) != slices.Contains(g.Near(b), a) {
					t.Errorf("P3.2: %d columns, %d rows: %d and %d are near one way only", cols, rows, a, b)
				}
			}
		}
	})
}

// TestNearIsNew: who writes into what Near answered, or behind its end, changes nothing (R3).
func TestNearIsNew(t *testing.T) {
	g := told(t, 3, 3)
	first, second := g.Near(4), g.Near(4)
	for i := range first {
		first[i] = -7
	}
	_ = append(first, -7, -7, -7)
	want := []int{0, 1, 2, 3, 4, 5, 6, 7, 8}
	if !slices.Equal(second, want) || !slices.Equal(g.Near(4), want) {
		t.Errorf("R3: Near(4) became %v, then %v", second, g.Near(4))
	}
}
