package entity

import (
	"math"
	"slices"
	"testing"

	"joust/api"
	"joust/grid"
)

// arena is a grid of so many columns, rows and players.
func arena(t *testing.T, cols, rows, players int) grid.Grid {
	t.Helper()
	g, e := grid.New(api.Config{Cols: cols, Rows: rows, Players: players, Window: 4, Seed: 9})
	if e != api.OK {
		t.Fatalf("New of %d columns, %d rows, %d players: error %d", cols, rows, players, e)
	}
	return g
}

// player, shot and gem are right ones in each arena; of a shot the owner is player 1.
func player(id int) api.Entity {
	return api.Entity{Id: id, Kind: api.Player, X: 512, Y: 300, Vx: 32, Vy: -64, Health: 60, Age: 3}
}

func shot(id int) api.Entity {
	return api.Entity{Id: id, Kind: api.Shot, X: 512, Y: 300, Vx: -160, Vy: 160, Health: 1, Age: 5, Owner: 1}
}

func gem(id int) api.Entity {
	return api.Entity{Id: id, Kind: api.Gem, X: 512, Y: 300, Health: 1}
}

// field is one field of an entity, and the numbers from lo to hi that are right in it.
type field struct {
	name   string
	of     func(e *api.Entity) *int
	lo, hi int
}

func id(e *api.Entity) *int     { return &e.Id }
func x(e *api.Entity) *int      { return &e.X }
func y(e *api.Entity) *int      { return &e.Y }
func vx(e *api.Entity) *int     { return &e.Vx }
func vy(e *api.Entity) *int     { return &e.Vy }
func health(e *api.Entity) *int { return &e.Health }
func age(e *api.Entity) *int    { return &e.Age }
func owner(e *api.Entity) *int  { return &e.Owner }

// places is the fields X and Y in an arena of so many columns and rows.
func places(cols, rows int) []field {
	return []field{{"X", x, 0, cols*1024 - 1}, {"Y", y, 0, rows*1024 - 1}}
}

func playerFields(players int) []field {
	return []field{{"Id", id, 1, players}, {"Vx", vx, -64, 64}, {"Vy", vy, -64, 64}, {"Health", health, 1, 100}, {"Age", age, 0, 6}, {"Owner", owner, 0, 0}}
}

// shotFields is without Vx and Vy, which hang on each other.
func shotFields(players int) []field {
	return []field{{"Id", id, 1000, 1<<31 - 1}, {"Health", health, 1, 1}, {"Age", age, 0, 12}, {"Owner", owner, 1, players}}
}

func gemFields() []field {
	return []field{{"Id", id, 1000, 1<<31 - 1}, {"Vx", vx, 0, 0}, {"Vy", vy, 0, 0}, {"Health", health, 1, 1}, {"Age", age, 0, 0}, {"Owner", owner, 0, 0}}
}

// probes is numbers to be held against the bounds lo and hi: those at and beside them, between them, such as are small again in fewer bits, and the ends of int.
func probes(lo, hi int) []int {
	return []int{
		lo, hi, lo - 1, hi + 1, lo + 1, hi - 1, lo + (hi-lo)/2, -lo, -hi, 0, 1, -1, 2,
		1<<8 + lo, 1<<16 + lo, 1<<31 + lo, 1<<32 + lo, -1<<32 + lo, 1<<62 + lo, 1<<32 + hi,
		math.MaxInt, math.MaxInt - 1, math.MinInt, math.MinInt + 1,
	}
}

// checkField turns one field of a right entity to all probes, and asks whether it is still right.
func checkField(t *testing.T, g grid.Grid, e api.Entity, f field) {
	t.Helper()
	if !Right(g, e) {
		t.Errorf("P5.1: Right of %+v, %d players: false", e, g.Players)
	}
	for _, v := range probes(f.lo, f.hi) {
		turned := e
		*f.of(&turned) = v
		if want := v >= f.lo && v <= f.hi; Right(g, turned) != want {
			t.Errorf("P5.1: Right of %+v with %s %d, %d players: %v", e, f.name, v, g.Players, !want)
		}
	}
}

// atEnds is e with all fields at their lower bounds, and e with all at their upper bounds.
func atEnds(e api.Entity, fields []field) []api.Entity {
	lower, upper := e, e
	for _, f := range fields {
		*f.of(&lower) = f.lo
		*f.of(&upper) = f.hi
	}
	return []api.Entity{lower, upper}
}

func checkFields(t *testing.T, g grid.Grid, e api.Entity, fields []field) {
	t.Helper()
	for _, base := range append(atEnds(e, fields), e) {
		for _, f := range fields {
			checkField(t, g, base, f)
		}
	}
}

func TestRightPlayer(t *testing.T) {
	for players := 1; players <= 6; players++ {
		checkFields(t, arena(t, 3, 2, players), player(1), append(places(3, 2), playerFields(players)...))
	}
}

func TestRightShot(t *testing.T) {
	for players := 1; players <= 6; players++ {
		checkFields(t, arena(t, 3, 2, players), shot(1000), append(places(3, 2), shotFields(players)...))
	}
}

func TestRightGem(t *testing.T) {
	for players := 1; players <= 6; players++ {
		checkFields(t, arena(t, 3, 2, players), gem(1000), append(places(3, 2), gemFields()...))
	}
}

// TestRightShotFlies: each pair of speeds, of which but eight are right.
func TestRightShotFlies(t *testing.T) {
	g := arena(t, 3, 2, 2)
	speeds := []int{0, 160, -160, 1, -1, 32, 64, 80, 159, 161, -159, -161, 320, -320, 1<<32 + 160, 1 << 32, math.MaxInt, math.MinInt, math.MinInt + 160}
	right := 0
	for i, a := range speeds {
		for k, b := range speeds {
			e := shot(1000)
			e.Vx, e.Vy = a, b
			// The first three are those that a shot may have.
			want := i < 3 && k < 3 && i+k > 0
			if Right(g, e) != want {
				t.Errorf("P5.1: Right of a Shot with Vx %d, Vy %d: %v", a, b, !want)
			}
			if Right(g, e) {
				right++
			}
		}
	}
	if right != 8 {
		t.Errorf("P5.1: a Shot flies %d ways; want 8", right)
	}
}

// TestRightPlaces: at the walls of all arenas, and one beyond them.
func TestRightPlaces(t *testing.T) {
	for cols := 1; cols <= 4; cols++ {
		for rows := 1; rows <= 4; rows++ {
			g := arena(t, cols, rows, 2)
			for _, e := range []api.Entity{player(2), shot(2000), gem(3000)} {
				checkFields(t, g, e, places(cols, rows))
			}
		}
	}
}

func TestRightOtherKinds(t *testing.T) {
	g := arena(t, 3, 2, 2)
	for _, e := range []api.Entity{player(1), shot(1000), gem(1000), {}, {Id: 1}, {Id: 1000, Health: 1}} {
		for _, kind := range []int{0, 4, 5, -1, -2, -3, 257, 258, 259, 1<<32 + 1, 1<<32 + 2, 1<<32 + 3, math.MaxInt, math.MinInt, math.MinInt + 1} {
			e.Kind = kind
			if Right(g, e) {
				t.Errorf("P5.1: Right of %+v: true", e)
			}
		}
	}
}

// TestRightNotOfAnother: who has the fields of one kind is not right as another one.
func TestRightNotOfAnother(t *testing.T) {
	g := arena(t, 3, 2, 2)
	for _, e := range []api.Entity{player(1), shot(1000), gem(1000)} {
		own := e.Kind
		for _, kind := range []int{api.Player, api.Shot, api.Gem} {
			e.Kind = kind
			if Right(g, e) != (kind == own) {
				t.Errorf("P5.1: Right of %+v, made as Kind %d: %v", e, own, kind != own)
			}
		}
	}
}

// TestRightNoGrid: nothing is right in an arena that there is not.
func TestRightNoGrid(t *testing.T) {
	for _, c := range []api.Config{{}, {Players: 2}, {Cols: 5, Rows: 1, Players: 2, Window: 4}, {Cols: 1, Rows: 0, Players: 2, Window: 4}, {Cols: 1, Rows: 1, Players: 7, Window: 4}, {Cols: 1, Rows: 1, Players: 2}, {Cols: math.MaxInt, Rows: math.MinInt, Players: math.MaxInt, Window: 4}} {
		for _, e := range []api.Entity{player(1), shot(1000), gem(1000), {}} {
			if Right(grid.Grid{Config: c}, e) {
				t.Errorf("P5.1: Right of %+v in no arena, %+v: true", e, c)
			}
		}
	}
}

// listed is entities with these numbers, each with its own X, from first on, so that those of one number are told apart.
func listed(first int, ids ...int) []api.Entity {
	var l []api.Entity
	for i, v := range ids {
		l = append(l, api.Entity{Id: v, Kind: 1 + i%3, X: first + i, Health: 7})
	}
	return l
}

// picked is those of l at these places.
func picked(l []api.Entity, at ...int) []api.Entity {
	var out []api.Entity
	for _, i := range at {
		out = append(out, l[i])
	}
	return out
}

func TestFind(t *testing.T) {
	l := listed(0, 4, 2, 1000, 2, 4, 9, 9)
	for _, r := range []struct {
		l        []api.Entity
		id, want int
	}{
		{l, 4, 0}, {l, 2, 1}, {l, 1000, 2}, {l, 9, 5}, {l, 3, -1}, {l, 0, -1}, {l, -4, -1}, {l, 1<<32 + 4, -1}, {l, math.MaxInt, -1}, {l, math.MinInt, -1},
		{l[:6], 9, 5}, {l[:5], 9, -1}, {l[1:], 4, 3}, {nil, 0, -1}, {nil, 1, -1}, {[]api.Entity{}, 0, -1}, {[]api.Entity{{}}, 0, 0},
		{listed(0, math.MaxInt, math.MinInt, -1), math.MinInt, 1}, {listed(0, math.MaxInt, math.MinInt, -1), -1, 2}, {listed(0, 1, 2, 3), 3, 2},
	} {
		if got := Find(r.l, r.id); got != r.want {
			t.Errorf("P5.2: Find(%v, %d): %d; want %d", r.l, r.id, got, r.want)
		}
	}
}

// TestPut: places are those in the list l and more behind it.
func TestPut(t *testing.T) {
	for _, r := range []struct{ l, more, want []int }{
		{nil, nil, nil},
		{[]int{}, []int{}, []int{}},
		{[]int{2, 5}, nil, []int{0, 1}},
		{nil, []int{4}, []int{0}},
		{nil, []int{4, 2, 9, 3}, []int{1, 3, 0, 2}},
		{[]int{2, 5, 8}, []int{1}, []int{3, 0, 1, 2}},
		{[]int{2, 5, 8}, []int{3}, []int{0, 3, 1, 2}},
		{[]int{2, 5, 8}, []int{7}, []int{0, 1, 3, 2}},
		{[]int{2, 5, 8}, []int{9}, []int{0, 1, 2, 3}},
		{[]int{2, 5, 8}, []int{1, 3, 9}, []int{3, 0, 4, 1, 2, 5}},
		{[]int{2, 5, 8}, []int{9, 3, 1}, []int{5, 0, 4, 1, 2, 3}},
		{[]int{2, 5, 8}, []int{2}, []int{0, 1, 2}},
		{[]int{2, 5, 8}, []int{8, 5, 2}, []int{0, 1, 2}},
		{[]int{2, 5, 8}, []int{6, 6}, []int{0, 1, 3, 2}},
		{[]int{2, 5, 8}, []int{9, 5, 9, 6, 6}, []int{0, 1, 6, 2, 3}},
		{nil, []int{3, 3, 3}, []int{0}},
		{[]int{8, 2, 5}, []int{3}, []int{3, 0, 1, 2}},
		{[]int{8, 2, 5}, []int{9}, []int{0, 1, 2, 3}},
		{[]int{8, 2, 5}, []int{2}, []int{0, 1, 2}},
		{[]int{8, 2, 5}, []int{5, 5}, []int{0, 1, 2}},
		{[]int{2, 8, 1, 9}, []int{3, 1, 4}, []int{0, 4, 6, 1, 2, 3}},
		{[]int{2, 8, 1, 9}, []int{9, 10, 0}, []int{6, 0, 1, 2, 3, 5}},
		{[]int{5, 5, 5}, []int{5, 4, 6}, []int{4, 0, 1, 2, 5}},
		{[]int{5, 2, 5}, []int{5, 3}, []int{4, 0, 1, 2}},
		{[]int{0, math.MaxInt}, []int{math.MinInt, math.MaxInt, -1, 1 << 32}, []int{2, 4, 0, 5, 1}},
		{[]int{math.MinInt}, []int{math.MaxInt, math.MinInt + 1, math.MinInt}, []int{0, 2, 1}},
	} {
		l, more := listed(0, r.l...), listed(len(r.l), r.more...)
		want := picked(append(slices.Clone(l), more...), r.want...)
		if got := Put(l, more...); !slices.Equal(got, want) {
			t.Errorf("P5.2: Put(%v, %v): %v; want %v", l, more, got, want)
		}
	}
}

// eachRow goes through all rows of at most length numbers from 1 to most.
func eachRow(length, most int, check func(row []int)) {
	rows := [][]int{nil}
	for k := 0; k <= length; k++ {
		var longer [][]int
		for _, row := range rows {
			check(row)
			for v := 1; v <= most; v++ {
				longer = append(longer, append(slices.Clone(row), v))
			}
		}
		rows = longer
	}
}

// TestPutOneByOne: what is put at once is what is put one behind the other, and of each number the first one that came stands.
func TestPutOneByOne(t *testing.T) {
	eachRow(3, 4, func(before []int) {
		eachRow(3, 4, func(then []int) {
			l, more := listed(0, before...), listed(len(before), then...)
			one := l
			for _, e := range more {
				one = Put(one, e)
			}
			at := Put(l, more...)
			if !slices.Equal(at, one) {
				t.Errorf("P5.2: Put(%v, %v): %v; one by one %v", l, more, at, one)
			}
			all := append(slices.Clone(l), more...)
			for _, e := range all {
				if at[Find(at, e.Id)] != all[Find(all, e.Id)] {
					t.Errorf("P5.2: Put(%v, %v): %v has not the first one of %d", l, more, at, e.Id)
				}
			}
			if Sorted(l) && !Sorted(at) {
				t.Errorf("P5.2: Put(%v, %v): %v is not sorted", l, more, at)
			}
		})
	})
}

func TestDrop(t *testing.T) {
	for _, r := range []struct{ l, ids, want []int }{
		{nil, nil, nil},
		{nil, []int{0, 1}, nil},
		{[]int{}, []int{}, []int{}},
		{[]int{2, 5, 8}, nil, []int{0, 1, 2}},
		{[]int{2, 5, 8}, []int{}, []int{0, 1, 2}},
		{[]int{2, 5, 8}, []int{2}, []int{1, 2}},
		{[]int{2, 5, 8}, []int{5}, []int{0, 2}},
		{[]int{2, 5, 8}, []int{8}, []int{0, 1}},
		{[]int{2, 5, 8}, []int{8, 2}, []int{1}},
		{[]int{2, 5, 8}, []int{5, 8, 2}, nil},
		{[]int{2, 5, 8}, []int{3, 0, -2, 1<<32 + 2, math.MaxInt, math.MinInt}, []int{0, 1, 2}},
		{[]int{2, 5, 8}, []int{9, 5, 5, 1}, []int{0, 2}},
		{[]int{5, 2, 5, 2, 8, 5}, []int{5}, []int{1, 3, 4}},
		{[]int{5, 2, 5, 2, 8, 5}, []int{2, 8}, []int{0, 2, 5}},
		{[]int{8, 2, 5}, []int{7}, []int{0, 1, 2}},
		{[]int{0, 1, 0}, []int{0}, []int{1}},
		{[]int{math.MaxInt, 0, math.MinInt}, []int{math.MinInt, math.MaxInt}, []int{1}},
	} {
		l := listed(0, r.l...)
		if got, want := Drop(l, r.ids...), picked(l, r.want...); !slices.Equal(got, want) {
			t.Errorf("P5.2: Drop(%v, %v): %v; want %v", l, r.ids, got, want)
		}
	}
}

func TestThings(t *testing.T) {
	for _, r := range []struct {
		l    []api.Entity
		want int
	}{
		{nil, 0}, {[]api.Entity{}, 0}, {[]api.Entity{player(1)}, 0}, {[]api.Entity{shot(1000)}, 1}, {[]api.Entity{gem(1000)}, 1},
		{[]api.Entity{player(1), player(2), player(1)}, 0},
		{[]api.Entity{gem(1000), player(1), shot(1001), player(3), gem(1000)}, 3},
		// Its kind counts, not its number, and also one that there is not.
		{[]api.Entity{player(1000), shot(1), gem(2)}, 2},
		{[]api.Entity{{}, {Kind: 4}, {Kind: -1}, {Kind: 1<<32 + 1}, {Kind: math.MinInt}, {Kind: 1}}, 5},
	} {
		if got := Things(r.l); got != r.want {
			t.Errorf("P5.2: Things(%v): %d; want %d", r.l, got, r.want)
		}
	}
}

func TestSorted(t *testing.T) {
	for _, r := range []struct {
		ids  []int
		want bool
	}{
		{nil, true}, {[]int{}, true}, {[]int{0}, true}, {[]int{-7}, true}, {[]int{1, 2}, true}, {[]int{2, 1}, false}, {[]int{2, 2}, false},
		{[]int{1, 2, 3, 1000}, true}, {[]int{1, 3, 2, 1000}, false}, {[]int{1, 2, 3, 3}, false}, {[]int{1, 2, 1000, 3}, false}, {[]int{2, 1, 3, 4}, false}, {[]int{1, 1, 2, 3}, false},
		{[]int{math.MinInt, -1, 0, math.MaxInt}, true}, {[]int{math.MaxInt, math.MinInt}, false}, {[]int{math.MinInt, math.MinInt}, false}, {[]int{0, math.MinInt}, false},
	} {
		if got := Sorted(listed(0, r.ids...)); got != r.want {
			t.Errorf("P5.2: Sorted of the numbers %v: %v", r.ids, got)
		}
	}
	if Sorted([]api.Entity{{}, {}}) || !Sorted([]api.Entity{{Id: 1, X: 9}, {Id: 2, X: 3}}) {
		t.Error("P5.2: Sorted goes by something else than numbers")
	}
}

// roomy is entities with these numbers, with room behind their end that is written to; whole is all of it.
func roomy(ids ...int) (l, whole []api.Entity) {
	whole = append(listed(50, ids...), listed(90, 77, 78, 79, 80)...)
	return whole[:len(ids)], whole
}

// TestStays: what came in, with the room behind its end, is not changed (R3).
func TestStays(t *testing.T) {
	for _, ids := range [][]int{{}, {5}, {2, 5, 8}, {8, 2, 5, 2}} {
		l, wholeList := roomy(ids...)
		more, wholeMore := roomy(9, 3, 3, 1)
		numbers := []int{8, 2, 6, 5, 3}
		drop := numbers[:3]
		listWas, moreWas, numbersWere := slices.Clone(wholeList), slices.Clone(wholeMore), slices.Clone(numbers)
		Put(l)
		Put(l, more...)
		Drop(l)
		Drop(l, drop...)
		Find(l, 5)
		Things(l)
		Sorted(l)
		if !slices.Equal(wholeList, listWas) || !slices.Equal(wholeMore, moreWas) || !slices.Equal(numbers, numbersWere) {
			t.Errorf("R3: the numbers %v: the list became %v, more %v, ids %v", ids, wholeList, wholeMore, numbers)
		}
	}
}

// TestIsNew: who writes into an answer, or behind its end, changes neither what came in nor another answer, and the other way round (R3).
func TestIsNew(t *testing.T) {
	more := listed(70, 9, 3)
	for name, call := range map[string]func(l []api.Entity) []api.Entity{
		"Put of none":             func(l []api.Entity) []api.Entity { return Put(l) },
		"Put of several":          func(l []api.Entity) []api.Entity { return Put(l, more...) },
		"Put of what is there":    func(l []api.Entity) []api.Entity { return Put(l, l...) },
		"Put into none":           func(l []api.Entity) []api.Entity { return Put(nil, l...) },
		"Put into none with room": func(l []api.Entity) []api.Entity { return Put(l[:0], more...) },
		"Drop of none":            func(l []api.Entity) []api.Entity { return Drop(l) },
		"Drop of some":            func(l []api.Entity) []api.Entity { return Drop(l, 5, 8) },
		"Drop of all":             func(l []api.Entity) []api.Entity { return Drop(l, 2, 5, 8) },
	} {
		l, whole := roomy(2, 5, 8)
		was := slices.Clone(whole)
		first, second := call(l), call(l)
		want := slices.Clone(second)
		scribble(first)
		if !slices.Equal(whole, was) || !slices.Equal(second, want) {
			t.Errorf("R3: %s: what was written into an answer is in %v or %v", name, whole, second)
		}
		scribble(whole)
		if !slices.Equal(second, want) {
			t.Errorf("R3: %s: what was written into the list is in the answer %v", name, second)
		}
	}
	if !slices.Equal(more, listed(70, 9, 3)) {
		t.Errorf("R3: what was put became %v", more)
	}
}

// scribble writes over all of l, and over the room behind its end.
func scribble(l []api.Entity) {
	l = l[:cap(l)]
	for i := range l {
		l[i] = api.Entity{Id: -7, X: -7}
	}
}

// TestNoneIsEmpty: nil and an empty list are the same (R3).
func TestNoneIsEmpty(t *testing.T) {
	for _, l := range [][]api.Entity{nil, {}, make([]api.Entity, 0, 4)} {
		if Find(l, 0) != -1 || Things(l) != 0 || !Sorted(l) || len(Put(l)) != 0 || len(Drop(l)) != 0 || len(Drop(l, 0, 1)) != 0 {
			t.Errorf("R3: an empty list (nil: %v) is not as none", l == nil)
		}
		if got := Put(l, gem(1000)); !slices.Equal(got, []api.Entity{gem(1000)}) {
			t.Errorf("P5.2: Put of a gem into an empty list (nil: %v): %v", l == nil, got)
		}
	}
}
