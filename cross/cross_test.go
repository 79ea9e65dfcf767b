package cross

import (
	"math"
	"slices"
	"testing"

	"joust/api"
	"joust/grid"
)

// arena is a grid of so many columns and rows, and of three players.
func arena(t *testing.T, cols, rows int) grid.Grid {
	t.Helper()
	g, e := grid.New(api.Config{Cols: cols, Rows: rows, Players: 3, Window: 4, Seed: 9})
	if e != api.OK {
		t.Fatalf("New of %d columns, %d rows: error %d", cols, rows, e)
	}
	return g
}

// player, shot and gem are right ones, wherever x and y are inside.
func player(id, x, y int) api.Entity {
	return api.Entity{Id: id, Kind: api.Player, X: x, Y: y, Vx: 32, Vy: -64, Health: 60, Age: 3}
}

func shot(id, x, y int) api.Entity {
	return api.Entity{Id: id, Kind: api.Shot, X: x, Y: y, Vx: -160, Vy: 160, Health: 1, Age: 5, Owner: 1}
}

func gem(id, x, y int) api.Entity {
	return api.Entity{Id: id, Kind: api.Gem, X: x, Y: y, Health: 1}
}

func hand(from, to, frame int, e api.Entity) api.Cross {
	return api.Cross{Kind: api.Handoff, From: from, To: to, Frame: frame, Entity: e}
}

func blast(from, to, frame, x, y int) api.Cross {
	return api.Cross{Kind: api.Blast, From: from, To: to, Frame: frame, X: x, Y: y}
}

// checkRight asks for Right of c.
func checkRight(t *testing.T, g grid.Grid, c api.Cross, want bool) {
	t.Helper()
	if Right(g, c) != want {
		t.Errorf("P6.1: Right of %+v, %d columns, %d rows: %v", c, g.Cols, g.Rows, !want)
	}
}

// eachArena goes through arenas of all columns and rows.
func eachArena(t *testing.T, check func(g grid.Grid, cols, rows int)) {
	t.Helper()
	for cols := 1; cols <= 4; cols++ {
		for rows := 1; rows <= 4; rows++ {
			check(arena(t, cols, rows), cols, rows)
		}
	}
}

// near: are both regions of so many columns and rows, at most one column and one row off? It is counted here by itself, without Near.
func near(cols, rows, a, b int) bool {
	if a < 0 || b < 0 || a >= cols*rows || b >= cols*rows {
		return false
	}
	byCol, byRow := a%cols-b%cols, a/cols-b/cols
	return byCol*byCol <= 1 && byRow*byRow <= 1
}

// numbers is the regions from two ahead of the first one to two behind the last one, and such as are regions again in fewer bits, and the ends of int.
func numbers(regions int) []int {
	l := []int{1 << 8, 1 << 16, 1 << 32, 1<<32 + 1, -1 << 32, 1 << 62, math.MaxInt, math.MaxInt - 1, math.MinInt, math.MinInt + 1}
	for r := -2; r < regions+2; r++ {
		l = append(l, r)
	}
	return l
}

// middle is in the region r, if it is one; else it is in the region 0.
func middle(cols, rows, r int) (int, int) {
	if r < 0 || r >= cols*rows {
		return 512, 512
	}
	return r%cols*1024 + 512, r/cols*1024 + 512
}

// TestRightRegions: each From and To, in all arenas; a Handoff goes to another region, a Blast to itself, too.
func TestRightRegions(t *testing.T) {
	eachArena(t, func(g grid.Grid, cols, rows int) {
		for _, from := range numbers(cols * rows) {
			for _, to := range numbers(cols * rows) {
				x, y := middle(cols, rows, to)
				goes := near(cols, rows, from, to)
				checkRight(t, g, hand(from, to, 5, player(1, x, y)), goes && from != to)
				checkRight(t, g, hand(from, to, 5, shot(1000, x, y)), goes && from != to)
				checkRight(t, g, hand(from, to, 5, gem(1000, x, y)), goes && from != to)
				checkRight(t, g, blast(from, to, 5, x, y), goes)
			}
		}
	})
}

// TestRightBothWays: what goes one way goes the other way.
func TestRightBothWays(t *testing.T) {
	eachArena(t, func(g grid.Grid, cols, rows int) {
		for a := range cols * rows {
			for b := range cols * rows {
				if Right(g, blast(a, b, 0, 0, 0)) != Right(g, blast(b, a, 0, 0, 0)) {
					t.Errorf("P6.1: a Blast goes one way between %d and %d, %d columns, %d rows", a, b, cols, rows)
				}
			}
		}
	})
}

func TestRightFrame(t *testing.T) {
	g := arena(t, 3, 2)
	for _, r := range []struct {
		frame int
		want  bool
	}{
		{0, true}, {1, true}, {5000, true}, {9998, true}, {9999, true}, {10_000, false}, {10_001, false}, {-1, false}, {-2, false}, {-9999, false},
		{1 << 16, false}, {1 << 32, false}, {1<<32 + 5, false}, {-1<<32 + 5, false}, {1 << 62, false}, {math.MaxInt, false}, {math.MinInt, false}, {math.MinInt + 5, false},
	} {
		checkRight(t, g, hand(0, 1, r.frame, player(1, 1024, 0)), r.want)
		checkRight(t, g, hand(4, 1, r.frame, gem(1000, 1024, 0)), r.want)
		checkRight(t, g, blast(0, 1, r.frame, 7, 7), r.want)
		checkRight(t, g, blast(2, 2, r.frame, 7, 7), r.want)
	}
}

// TestRightHandoffPlace: at all edges of each region, and one beyond them, each entity is right for the region where it stands alone.
func TestRightHandoffPlace(t *testing.T) {
	eachArena(t, func(g grid.Grid, cols, rows int) {
		for to := range cols * rows {
			from := neighbour(cols, rows, to)
			left, top := to%cols*1024, to/cols*1024
			for _, x := range []int{left - 1, left, left + 500, left + 1023, left + 1024} {
				for _, y := range []int{top - 1, top, top + 500, top + 1023, top + 1024} {
					stands := x >= left && x < left+1024 && y >= top && y < top+1024
					checkRight(t, g, hand(from, to, 5, player(3, x, y)), stands && from != to)
					checkRight(t, g, hand(from, to, 5, shot(1000, x, y)), stands && from != to)
					checkRight(t, g, hand(from, to, 5, gem(1000, x, y)), stands && from != to)
				}
			}
		}
	})
}

// neighbour is another region that is near to r; r itself, if there is none.
func neighbour(cols, rows, r int) int {
	for other := range cols * rows {
		if other != r && near(cols, rows, other, r) {
			return other
		}
	}
	return r
}

// TestRightHandoffEntity: what is no right entity is not handed off.
func TestRightHandoffEntity(t *testing.T) {
	g := arena(t, 3, 2)
	for _, r := range []struct {
		name string
		base api.Entity
		turn func(e *api.Entity)
		want bool
	}{
		{"as it is", player(1, 1500, 5), func(e *api.Entity) {}, true},
		{"the last player", player(1, 1500, 5), func(e *api.Entity) { e.Id = 3 }, true},
		{"no player", player(1, 1500, 5), func(e *api.Entity) { e.Id = 0 }, false},
		{"a player too many", player(1, 1500, 5), func(e *api.Entity) { e.Id = 4 }, false},
		{"a player too fast", player(1, 1500, 5), func(e *api.Entity) { e.Vx = 65 }, false},
		{"a fallen player", player(1, 1500, 5), func(e *api.Entity) { e.Health = 0 }, false},
		{"a player with an owner", player(1, 1500, 5), func(e *api.Entity) { e.Owner = 1 }, false},
		{"a shot as it is", shot(1000, 1500, 5), func(e *api.Entity) {}, true},
		{"a shot with a player's number", shot(1000, 1500, 5), func(e *api.Entity) { e.Id = 999 }, false},
		{"a shot too old", shot(1000, 1500, 5), func(e *api.Entity) { e.Age = 13 }, false},
		{"a shot of nobody", shot(1000, 1500, 5), func(e *api.Entity) { e.Owner = 0 }, false},
		{"a gem as it is", gem(1<<31-1, 1500, 5), func(e *api.Entity) {}, true},
		{"a gem with too great a number", gem(1<<31, 1500, 5), func(e *api.Entity) {}, false},
		{"a gem that moves", gem(1000, 1500, 5), func(e *api.Entity) { e.Vy = 1 }, false},
		{"no kind", gem(1000, 1500, 5), func(e *api.Entity) { e.Kind = 0 }, false},
		{"another kind", gem(1000, 1500, 5), func(e *api.Entity) { e.Kind = 4 }, false},
		// Of clamps: it would tell the region 1 of these, too.
		{"above the arena", player(1, 1500, 5), func(e *api.Entity) { e.Y = -1 }, false},
		{"far above the arena", player(1, 1500, 5), func(e *api.Entity) { e.Y = math.MinInt }, false},
		{"nothing", api.Entity{}, func(e *api.Entity) {}, false},
	} {
		e := r.base
		r.turn(&e)
		if Right(g, hand(0, 1, 5, e)) != r.want {
			t.Errorf("P6.1: Right of a Handoff, %s, %+v: %v", r.name, e, !r.want)
		}
	}
}

// TestRightHandoffNoPlace: X and Y of a Handoff are 0: the place is its entity's.
func TestRightHandoffNoPlace(t *testing.T) {
	g := arena(t, 3, 2)
	for _, v := range []int{1, -1, 5, 1024, 1500, 1 << 32, math.MaxInt, math.MinInt} {
		for _, e := range []api.Entity{player(1, 1500, 5), shot(1000, 1500, 5), gem(1000, 1500, 5)} {
			c := hand(0, 1, 5, e)
			checkRight(t, g, c, true)
			c.X = v
			checkRight(t, g, c, false)
			c.X, c.Y = 0, v
			checkRight(t, g, c, false)
			c.X, c.Y = v, -v
			checkRight(t, g, c, false)
			c.X, c.Y = 1500, 5
			checkRight(t, g, c, false)
		}
	}
}

// TestRightBlastPlace: at the arena's edges, and one beyond; it may be in another region than To.
func TestRightBlastPlace(t *testing.T) {
	eachArena(t, func(g grid.Grid, cols, rows int) {
		width, height := cols*1024, rows*1024
		for _, x := range []int{0, 1, 1023, width - 1, width, width + 1, -1, 1 << 32, -1 << 32, math.MaxInt, math.MinInt} {
			for _, y := range []int{0, 1, 1023, height - 1, height, height + 1, -1, 1 << 32, -1 << 32, math.MaxInt, math.MinInt} {
				inside := x >= 0 && x < width && y >= 0 && y < height
				checkRight(t, g, blast(0, 0, 5, x, y), inside)
				checkRight(t, g, blast(cols*rows-1, cols*rows-1, 5, x, y), inside)
			}
		}
	})
}

// TestRightBlastEntity: a Blast has no entity, not one field of it.
func TestRightBlastEntity(t *testing.T) {
	g := arena(t, 3, 2)
	for _, e := range []api.Entity{
		{Id: 1}, {Kind: 1}, {X: 1}, {Y: 1}, {Vx: 1}, {Vy: 1}, {Health: 1}, {Age: 1}, {Owner: 1}, {Id: -1}, {Owner: math.MinInt}, {Age: 1 << 32},
		player(1, 1500, 5), shot(1000, 1500, 5), gem(1000, 1500, 5),
	} {
		for _, to := range []int{0, 1} {
			c := blast(0, to, 5, 1500, 5)
			checkRight(t, g, c, true)
			c.Entity = e
			checkRight(t, g, c, false)
		}
	}
}

// TestRightKind: of another Kind nothing is right, and what is right as one Kind is not as the other one.
func TestRightKind(t *testing.T) {
	g := arena(t, 3, 2)
	for _, c := range []api.Cross{hand(0, 1, 5, player(1, 1500, 5)), hand(0, 1, 5, gem(1000, 1024, 0)), blast(0, 1, 5, 1500, 5), blast(0, 0, 0, 0, 0), {To: 1}, {}} {
		own := c.Kind
		for _, kind := range []int{1, 2, 0, 3, 4, -1, -2, 257, 258, 1<<32 + 1, 1<<32 + 2, math.MaxInt, math.MinInt, math.MinInt + 1} {
			c.Kind = kind
			// Those without a Kind are as Blasts at 0 and 0.
			want := kind == own && own != 0 || own == 0 && kind == api.Blast
			checkRight(t, g, c, want)
		}
	}
}

// TestRightNoGrid: nothing goes in an arena that there is not.
func TestRightNoGrid(t *testing.T) {
	for _, c := range []api.Config{{}, {Players: 3}, {Cols: 5, Rows: 1, Players: 3, Window: 4}, {Cols: 3, Rows: 0, Players: 3, Window: 4}, {Cols: 3, Rows: 1, Players: 7, Window: 4}, {Cols: 3, Rows: 1, Players: 3}, {Cols: math.MaxInt, Rows: math.MinInt, Players: math.MaxInt, Window: 4}} {
		for _, m := range []api.Cross{hand(0, 1, 5, player(1, 1500, 5)), hand(1, 0, 5, gem(1000, 0, 0)), blast(0, 0, 0, 0, 0), blast(0, 1, 5, 7, 7), {}} {
			if Right(grid.Grid{Config: c}, m) {
				t.Errorf("P6.1: Right of %+v in no arena, %+v: true", m, c)
			}
		}
	}
}

// places is those of l at these places.
func places(l []api.Cross, at ...int) []api.Cross {
	var out []api.Cross
	for _, i := range at {
		out = append(out, l[i])
	}
	return out
}

func TestTo(t *testing.T) {
	l := []api.Cross{blast(0, 1, 5, 7, 7), hand(0, 2, 5, gem(1002, 0, 0)), blast(1, 0, 9, 9, 1), blast(2, 1, 5, 7, 3), blast(0, 1, 5, 7, 7), hand(2, -1, 5, gem(1000, 0, 0)), {Kind: 9, To: 1}, {To: math.MinInt}, {To: math.MaxInt, From: 4}}
	for _, r := range []struct {
		to   int
		want []int
	}{
		{1, []int{0, 3, 4, 6}}, {2, []int{1}}, {0, []int{2}}, {-1, []int{5}}, {math.MinInt, []int{7}}, {math.MaxInt, []int{8}},
		{3, nil}, {4, nil}, {5, nil}, {9, nil}, {-2, nil}, {1<<32 + 1, nil}, {1 << 32, nil}, {math.MinInt + 1, nil},
	} {
		if got, want := To(l, r.to), places(l, r.want...); !slices.Equal(got, want) {
			t.Errorf("P6.1: To(%d): %+v; want %+v", r.to, got, want)
		}
	}
	for _, none := range [][]api.Cross{nil, {}, make([]api.Cross, 0, 4)} {
		if got := To(none, 0); len(got) != 0 {
			t.Errorf("P6.1: To of none: %+v", got)
		}
	}
	if got := To(l[3:4], 1); !slices.Equal(got, l[3:4]) {
		t.Errorf("P6.1: To of one: %+v", got)
	}
}

// checkLess asks for both ways round: a stands ahead of b.
func checkLess(t *testing.T, a, b api.Cross) {
	t.Helper()
	if !Less(a, b) || Less(b, a) {
		t.Errorf("P6.2: Less of %+v and %+v: %v, the other way round %v", a, b, Less(a, b), Less(b, a))
	}
}

// checkAlike asks that none of both stands ahead.
func checkAlike(t *testing.T, a, b api.Cross) {
	t.Helper()
	if Less(a, b) || Less(b, a) {
		t.Errorf("P6.2: Less of %+v and %+v, which are alike: %v, the other way round %v", a, b, Less(a, b), Less(b, a))
	}
}

// pairs is numbers of which the first one is the lesser.
var pairs = [][2]int{{0, 1}, {1, 2}, {-1, 0}, {-2, -1}, {-1, 1}, {5, 1 << 32}, {-1 << 32, 5}, {1<<32 + 1, 1 << 33}, {2, 10}, {math.MinInt, math.MaxInt}, {math.MinInt, math.MinInt + 1}, {math.MaxInt - 1, math.MaxInt}, {math.MinInt, 0}, {-2, math.MaxInt}}

// TestLessTo: To counts ahead of all else.
func TestLessTo(t *testing.T) {
	for _, p := range pairs {
		for _, kinds := range [][2]int{{1, 1}, {2, 2}, {1, 2}, {2, 1}, {3, 0}} {
			a := api.Cross{Kind: kinds[0], To: p[0], From: 9, Frame: 9, Entity: gem(9000, 9, 9), X: 9, Y: 9}
			b := api.Cross{Kind: kinds[1], To: p[1]}
			checkLess(t, a, b)
		}
	}
}

// TestLessKind: of one To the Kind counts, also one that there is not.
func TestLessKind(t *testing.T) {
	for _, p := range pairs {
		a := api.Cross{Kind: p[0], To: 4, From: 9, Frame: 9, Entity: gem(9000, 9, 9), X: 9, Y: 9}
		b := api.Cross{Kind: p[1], To: 4}
		checkLess(t, a, b)
	}
}

// TestLessHandoff: of Handoffs to one region the entity's number counts, and then nothing more.
func TestLessHandoff(t *testing.T) {
	for _, p := range pairs {
		a := api.Cross{Kind: api.Handoff, To: 4, From: 9, Frame: 9, Entity: gem(p[0], 9, 9), X: 9, Y: 9}
		b := api.Cross{Kind: api.Handoff, To: 4, Entity: api.Entity{Id: p[1]}}
		checkLess(t, a, b)
		b.Entity.Id = p[0]
		checkAlike(t, a, b)
	}
}

// TestLessOthers: of one Kind that is no Handoff X counts, then Y, and then nothing more.
func TestLessOthers(t *testing.T) {
	for _, p := range pairs {
		for _, kind := range []int{2, 0, 3, -1, 257, 1<<32 + 1, math.MinInt + 1} {
			a := api.Cross{Kind: kind, To: 4, From: 9, Frame: 9, Entity: gem(9000, 9, 9), X: p[0], Y: 9}
			b := api.Cross{Kind: kind, To: 4, X: p[1]}
			checkLess(t, a, b)
			a.X, a.Y = 7, p[0]
			b.X, b.Y = 7, p[1]
			checkLess(t, a, b)
			b.Y = p[0]
			checkAlike(t, a, b)
		}
	}
}

// TestLessAlike: From, Frame and the rest of the entity play no part.
func TestLessAlike(t *testing.T) {
	for _, p := range pairs {
		a, b := hand(p[0], 4, 5, gem(1000, 1, 1)), hand(p[1], 4, 5, gem(1000, 1, 1))
		checkAlike(t, a, b)
		checkAlike(t, hand(1, 4, p[0], gem(1000, 1, 1)), hand(1, 4, p[1], gem(1000, 1, 1)))
		checkAlike(t, hand(1, 4, 5, gem(1000, p[0], p[1])), hand(1, 4, 5, shot(1000, p[1], p[0])))
		checkAlike(t, blast(p[0], 4, 5, 1, 1), blast(p[1], 4, 5, 1, 1))
		checkAlike(t, blast(1, 4, p[0], 1, 1), blast(1, 4, p[1], 1, 1))
		a.X, a.Y, b.X, b.Y = p[0], p[1], p[1], p[0]
		checkAlike(t, a, b)
		checkAlike(t, a, a)
	}
	checkAlike(t, api.Cross{}, api.Cross{})
}

// many is messages, at least two of each sort that Less tells apart; From and Frame tell all of them apart.
func many() []api.Cross {
	var l []api.Cross
	for from := range 2 {
		for _, to := range []int{1, 0, -1} {
			for _, kind := range []int{2, 3, 1, 0} {
				for k := range 8 {
					l = append(l, api.Cross{Kind: kind, From: from, To: to, Frame: k, Entity: api.Entity{Id: 2 - k%2}, X: k / 2 % 2, Y: 1 - k/4})
				}
			}
		}
	}
	return l
}

// rank is what Less goes by, as one row of numbers.
func rank(c api.Cross) []int {
	if c.Kind == api.Handoff {
		return []int{c.To, c.Kind, c.Entity.Id}
	}
	return []int{c.To, c.Kind, c.X, c.Y}
}

// inserted is l sorted by ranks, one by one, each behind all that are not greater.
func inserted(l []api.Cross) []api.Cross {
	var out []api.Cross
	for _, c := range l {
		at := len(out)
		for at > 0 && slices.Compare(rank(out[at-1]), rank(c)) > 0 {
			at--
		}
		out = slices.Insert(out, at, c)
	}
	return out
}

// TestLessIsAnOrder: each pair of many messages.
func TestLessIsAnOrder(t *testing.T) {
	l := many()
	for _, a := range l {
		for _, b := range l {
			if want := slices.Compare(rank(a), rank(b)) < 0; Less(a, b) != want {
				t.Errorf("P6.2: Less of %+v and %+v: %v", a, b, !want)
			}
		}
	}
}

func TestSort(t *testing.T) {
	l := []api.Cross{
		blast(0, 1, 5, 7, 7), hand(0, 1, 5, gem(1002, 0, 0)), blast(1, 0, 5, 9, 1), blast(2, 1, 5, 7, 3), hand(2, 1, 5, gem(1000, 0, 0)),
		blast(0, 1, 6, 7, 3), blast(0, 1, 5, 2, 9), hand(3, 1, 2, player(2, 0, 0)), hand(1, 0, 5, gem(5000, 0, 0)), blast(2, 1, 5, 7, 3), hand(0, 1, 5, gem(1000, 8, 8)), {Kind: 3, To: 0, X: -1}, {Kind: 0, To: 0, X: 99},
	}
	want := places(l, 12, 8, 2, 11, 7, 4, 10, 1, 6, 3, 5, 9, 0)
	for _, lists := range [][][]api.Cross{{l}, {l[:4], l[4:]}, {nil, l[:1], {}, l[1:7], l[7:12], l[12:], nil}, {l, nil}, {{}, l}} {
		if got := Sort(lists...); !slices.Equal(got, want) {
			t.Errorf("P6.2: Sort of %+v: %+v; want %+v", lists, got, want)
		}
	}
}

// TestSortNone: Sort(): none.
func TestSortNone(t *testing.T) {
	for _, lists := range [][][]api.Cross{nil, {}, {nil}, {{}}, {nil, {}, make([]api.Cross, 0, 4), nil}} {
		if got := Sort(lists...); len(got) != 0 {
			t.Errorf("P6.2: Sort of %d lists with nothing in them: %+v", len(lists), got)
		}
	}
	if got := Sort(); len(got) != 0 {
		t.Errorf("P6.2: Sort(): %+v", got)
	}
	one := []api.Cross{{Kind: 7, From: -3}}
	if got := Sort(nil, one); !slices.Equal(got, one) {
		t.Errorf("P6.2: Sort of one: %+v", got)
	}
}

// shuffled is l in another order, which hangs on step; step and the length of l have no divisor in common.
func shuffled(l []api.Cross, step int) []api.Cross {
	var out []api.Cross
	for i := range l {
		out = append(out, l[(i*step+step)%len(l)])
	}
	return out
}

// TestSortMany: longer lists, cut into up to three, with many that are alike.
func TestSortMany(t *testing.T) {
	all := many()
	for _, step := range []int{1, 5, 7, 11, 25, 67, 115, len(all) - 1} {
		l := shuffled(all, step)
		want := inserted(l)
		for cut := 0; cut <= len(l); cut += 9 {
			if got := Sort(l[:cut], l[cut:(cut+len(l))/2], l[(cut+len(l))/2:]); !slices.Equal(got, want) {
				t.Fatalf("P6.2: Sort of many by the step %d, cut at %d: %+v; want %+v", step, cut, got, want)
			}
		}
		if got := Sort(want); !slices.Equal(got, want) {
			t.Errorf("P6.2: sorted twice, by the step %d: %+v; want %+v", step, got, want)
		}
	}
}

// TestSortAlike: those that are alike stay in order, the first list's ahead of the second one's; none is left out.
func TestSortAlike(t *testing.T) {
	for _, base := range []api.Cross{hand(0, 1, 0, gem(1000, 5, 5)), blast(0, 1, 0, 5, 5), {}, {Kind: 9}} {
		var l []api.Cross
		for i := range 100 {
			c := base
			c.From, c.Frame = (i*37+11)%100, -i
			l = append(l, c)
		}
		for _, cut := range []int{0, 1, 40, 99, 100} {
			if got := Sort(l[:cut], l[cut:]); !slices.Equal(got, l) {
				t.Errorf("P6.2: Sort of a hundred that are alike, cut at %d: %+v", cut, got)
			}
		}
		twice := append(slices.Clone(l), l...)
		if got := Sort(l, l); !slices.Equal(got, twice) {
			t.Errorf("P6.2: Sort of one list twice: %+v", got)
		}
	}
}

// roomy is a list with room behind its end that is written to; whole is all of it.
func roomy() (l, whole []api.Cross) {
	whole = []api.Cross{blast(0, 1, 5, 7, 7), hand(0, 1, 5, gem(1002, 0, 0)), blast(1, 0, 5, 9, 1), hand(0, 1, 5, gem(1000, 0, 0)), blast(8, 8, 8, 8, 8), blast(7, 1, 7, 7, 7), blast(6, 0, 6, 6, 6), blast(5, 1, 5, 5, 5)}
	return whole[:4], whole
}

// TestStays: what came in, with the room behind its end, is not changed (R3).
func TestStays(t *testing.T) {
	l, whole := roomy()
	more, wholeMore := roomy()
	lists := [][]api.Cross{l, more, nil, whole[6:]}
	was := slices.Clone(whole)
	Sort(l)
	Sort(l, more)
	Sort(l[:0], more)
	Sort(lists[:2]...)
	Sort(lists...)
	To(l, 1)
	To(l, 9)
	if !slices.Equal(whole, was) || !slices.Equal(wholeMore, was) {
		t.Errorf("R3: the lists became %+v and %+v", whole, wholeMore)
	}
	if len(lists[0]) != 4 || len(lists[1]) != 4 || lists[2] != nil || len(lists[3]) != 2 || &lists[0][0] != &whole[0] || &lists[3][0] != &whole[6] {
		t.Errorf("R3: the list of lists became %+v", lists)
	}
}

// scribble writes over all of l, and over the room behind its end.
func scribble(l []api.Cross) {
	l = l[:cap(l)]
	for i := range l {
		l[i] = api.Cross{Kind: -7, X: -7}
	}
}

// TestIsNew: who writes into an answer, or behind its end, changes neither what came in nor another answer, and the other way round (R3).
func TestIsNew(t *testing.T) {
	for name, call := range map[string]func(l []api.Cross) []api.Cross{
		"Sort of one list":           func(l []api.Cross) []api.Cross { return Sort(l) },
		"Sort of what is sorted":     func(l []api.Cross) []api.Cross { return Sort(l[:1]) },
		"Sort of it and none":        func(l []api.Cross) []api.Cross { return Sort(l, nil) },
		"Sort of none and it":        func(l []api.Cross) []api.Cross { return Sort(nil, l) },
		"Sort of it twice":           func(l []api.Cross) []api.Cross { return Sort(l, l) },
		"Sort into none with room":   func(l []api.Cross) []api.Cross { return Sort(l[:0], l[2:3]) },
		"Sort of nothing with room":  func(l []api.Cross) []api.Cross { return Sort(l[:0]) },
		"To of some":                 func(l []api.Cross) []api.Cross { return To(l, 1) },
		"To of the first ones alone": func(l []api.Cross) []api.Cross { return To(l[:2], 1) },
		"To of none":                 func(l []api.Cross) []api.Cross { return To(l, 9) },
	} {
		l, whole := roomy()
		was := slices.Clone(whole)
		first, second := call(l), call(l)
		want := slices.Clone(second)
		scribble(first)
		if !slices.Equal(whole, was) || !slices.Equal(second, want) {
			t.Errorf("R3: %s: what was written into an answer is in %+v or %+v", name, whole, second)
		}
		scribble(whole)
		if !slices.Equal(second, want) {
			t.Errorf("R3: %s: what was written into the list is in the answer %+v", name, second)
		}
	}
}
