package region

import (
	"math"
	"slices"
	"testing"

	"joust/api"
	"joust/chance"
	"joust/cross"
	"joust/entity"
	"joust/grid"
)

// arena is a grid of six players.
func arena(t *testing.T, cols, rows int) grid.Grid {
	t.Helper()
	g, e := grid.New(api.Config{Cols: cols, Rows: rows, Players: 6, Window: 4, Seed: 77})
	if e != api.OK {
		t.Fatalf("no arena of %d columns and %d rows: error %d", cols, rows, e)
	}
	return g
}

// eachRegion asks for all regions of all arenas.
func eachRegion(t *testing.T, ask func(g grid.Grid, r int)) {
	t.Helper()
	for cols := 1; cols <= api.MaxGrid; cols++ {
		for rows := 1; rows <= api.MaxGrid; rows++ {
			g := arena(t, cols, rows)
			for r := range cols * rows {
				ask(g, r)
			}
		}
	}
}

// player, shot and gem are entities that may be anywhere.
func player(id, x, y int) api.Entity {
	return api.Entity{Id: id, Kind: api.Player, X: x, Y: y, Health: 100}
}

func shot(id, x, y, owner int) api.Entity {
	return api.Entity{Id: id, Kind: api.Shot, X: x, Y: y, Vx: 160, Health: 1, Owner: owner}
}

func gem(id, x, y int) api.Entity {
	return api.Entity{Id: id, Kind: api.Gem, X: x, Y: y, Health: 1}
}

// with is e behind a change.
func with(e api.Entity, change func(e *api.Entity)) api.Entity {
	change(&e)
	return e
}

// hurt is e with another health.
func hurt(e api.Entity, health int) api.Entity {
	return with(e, func(e *api.Entity) { e.Health = health })
}

// at is a region ahead of a frame.
func at(frame int, l ...api.Entity) api.Region { return api.Region{Frame: frame, Entities: l} }

// someGems is n gems from the number first on, at one place.
func someGems(n, first, x, y int) []api.Entity {
	var l []api.Entity
	for i := range n {
		l = append(l, gem(first+i, x, y))
	}
	return l
}

// hand brings e from a region to another one.
func hand(from, to, frame int, e api.Entity) api.Cross {
	return api.Cross{Kind: api.Handoff, From: from, To: to, Frame: frame, Entity: e}
}

// blast is one.
func blast(from, to, frame, x, y int) api.Cross {
	return api.Cross{Kind: api.Blast, From: from, To: to, Frame: frame, X: x, Y: y}
}

// extremes is numbers that are no small ones, also those that are small in fewer bits.
func extremes() []int {
	return []int{math.MinInt, math.MinInt + 1, -1 << 32, -1 << 31, -257, -1, 257, 1 << 31, 1 << 32, 1<<32 + 1, math.MaxInt - 1, math.MaxInt}
}

// otherKinds is such as no entity has, and no message.
func otherKinds() []int { return append(extremes(), 0, 4, 5, 258, 259, 1<<32+2, 1<<32+3) }

// untold is grids that New does not tell.
func untold() []grid.Grid {
	var l []grid.Grid
	for _, c := range []api.Config{{}, {Cols: 5, Rows: 1, Players: 1, Window: 1}, {Cols: 1, Rows: 0, Players: 1, Window: 1}, {Cols: 2, Rows: 2, Players: 7, Window: 1}, {Cols: 2, Rows: 2, Players: 0, Window: 1}, {Cols: 2, Rows: 2, Players: 6, Window: 17}, {Cols: math.MaxInt, Rows: math.MaxInt, Players: 6, Window: 4}, {Cols: math.MinInt, Rows: -1, Players: 6, Window: 4}} {
		l = append(l, grid.Grid{Config: c})
	}
	return l
}

// roomy is a copy of l with room behind its end, and all of that memory.
func roomy[T any](l []T, filler T) (part, whole []T) {
	whole = append(slices.Clone(l), filler, filler, filler)
	return whole[:len(l)], whole
}

// overwrite writes into all memory of l, also into the room behind its end.
func overwrite[T any](l []T, filler T) {
	l = l[:cap(l)]
	for i := range l {
		l[i] = filler
	}
}

// given is what a call is asked with, each list with room behind its end.
type given struct {
	entities, allEntities, wasEntities []api.Entity
	inputs, allInputs, wasInputs       []api.Input
	inbox, allInbox, wasInbox          []api.Cross
}

func give(s api.Region, inputs []api.Input, inbox []api.Cross) given {
	var a given
	a.entities, a.allEntities = roomy(s.Entities, player(3, 33, 33))
	a.inputs, a.allInputs = roomy(inputs, api.Input{Dx: 1, Fire: true})
	a.inbox, a.allInbox = roomy(inbox, hand(0, 0, 5, player(4, 44, 44)))
	a.wasEntities, a.wasInputs, a.wasInbox = slices.Clone(a.allEntities), slices.Clone(a.allInputs), slices.Clone(a.allInbox)
	return a
}

// stays asks for R3: is all that was given as it was?
func (a given) stays(t *testing.T, name string) {
	t.Helper()
	if !slices.Equal(a.allEntities, a.wasEntities) || !slices.Equal(a.allInputs, a.wasInputs) || !slices.Equal(a.allInbox, a.wasInbox) {
		t.Errorf("R3: %s: what was handed in is not as it was: %+v, %+v, %+v", name, a.allEntities, a.allInputs, a.allInbox)
	}
}

func checkRight(t *testing.T, g grid.Grid, r int, s api.Region, want bool) {
	t.Helper()
	a := give(s, nil, nil)
	for range 2 {
		if Right(g, r, api.Region{Frame: s.Frame, Entities: a.entities}) != want {
			t.Errorf("P9.1: Right of the region %d of %d by %d: %+v: %v; want %v", r, g.Cols, g.Rows, s, !want, want)
		}
	}
	a.stays(t, "Right")
}

// checkArrive asks for Arrive, and for Present with it.
func checkArrive(t *testing.T, g grid.Grid, r int, s api.Region, inbox, want []api.Entity, others ...api.Cross) {
	t.Helper()
	var l []api.Cross
	for _, e := range inbox {
		l = append(l, hand(1, 0, s.Frame-1, e))
	}
	checkInbox(t, g, r, s, append(l, others...), want)
}

func checkInbox(t *testing.T, g grid.Grid, r int, s api.Region, inbox []api.Cross, want []api.Entity) {
	t.Helper()
	a := give(s, nil, inbox)
	s.Entities = a.entities
	first, second := Arrive(g, r, s, a.inbox...), Arrive(g, r, s, a.inbox...)
	if !slices.Equal(first, want) || !slices.Equal(second, want) {
		t.Errorf("P9.1: Arrive of %+v and %+v: %+v, then %+v; want %+v", s, inbox, first, second, want)
	}
	overwrite(first, api.Entity{Id: -9})
	if !slices.Equal(second, want) {
		t.Errorf("R3: Arrive of %+v and %+v: two answers share memory", s, inbox)
	}
	var ids []int
	for _, e := range want {
		if e.Kind == api.Player {
			ids = append(ids, e.Id)
		}
	}
	for range 2 {
		got := Present(g, r, s, a.inbox...)
		if !slices.Equal(got, ids) {
			t.Errorf("P9.1: Present of %+v and %+v: %v; want %v", s, inbox, got, ids)
		}
		overwrite(got, -9)
	}
	a.stays(t, "Arrive or Present")
}

func TestRightFrames(t *testing.T) {
	eachRegion(t, func(g grid.Grid, r int) {
		x, y := g.Corner(r)
		for _, frame := range []int{0, 1, 2, 5000, 9_999, 10_000} {
			checkRight(t, g, r, at(frame), true)
			checkRight(t, g, r, api.Region{Frame: frame, Entities: []api.Entity{}}, true)
			checkRight(t, g, r, at(frame, player(2, x, y), gem(1000, x+9, y+9)), true)
		}
		for _, frame := range append(extremes(), 10_001, 10_002, 1<<32+5) {
			if frame == 257 {
				continue
			}
			checkRight(t, g, r, at(frame), false)
			checkRight(t, g, r, at(frame, player(2, x, y), gem(1000, x+9, y+9)), false)
		}
	})
}

func TestRightRegions(t *testing.T) {
	eachRegion(t, func(g grid.Grid, r int) {
		for _, none := range append(extremes(), -2, g.Regions(), g.Regions()+1, 16, 17, 1<<32+r) {
			checkRight(t, g, none, at(5), false)
			checkRight(t, g, none, at(5, player(1, 5, 5)), false)
		}
	})
	for _, g := range untold() {
		for _, r := range append(extremes(), 0, 1) {
			checkRight(t, g, r, at(0), false)
			checkRight(t, g, r, at(0, player(1, 5, 5)), false)
		}
	}
}

// TestRightPlaces: each one's place is in the region, at its edges too; beyond them it is not, where there are others or none.
func TestRightPlaces(t *testing.T) {
	eachRegion(t, func(g grid.Grid, r int) {
		x, y := g.Corner(r)
		steps := []int{-1025, -1024, -1, 0, 1, 512, 1022, 1023, 1024, 1025, 2047, 2048}
		in := func(d int) bool { return d >= 0 && d <= 1023 }
		for _, dx := range steps {
			for _, dy := range steps {
				want := in(dx) && in(dy)
				checkRight(t, g, r, at(7, player(1, x+dx, y+dy)), want)
				checkRight(t, g, r, at(7, shot(1000, x+dx, y+dy, 2)), want)
				checkRight(t, g, r, at(7, player(1, x, y), player(2, x+5, y+5), gem(1000, x+dx, y+dy), gem(1001, x+7, y)), want)
			}
		}
	})
}

// TestRightEntities: one that is not right is enough, wherever it stands.
func TestRightEntities(t *testing.T) {
	g := arena(t, 2, 2)
	wrong := []api.Entity{
		{}, player(7, 5, 5), player(0, 5, 5), player(1001, 5, 5), hurt(player(2, 5, 5), 0), hurt(player(2, 5, 5), 101), hurt(player(2, 5, 5), -1),
		with(player(2, 5, 5), func(e *api.Entity) { e.Vx = 65 }), with(player(2, 5, 5), func(e *api.Entity) { e.Vy = -65 }), with(player(2, 5, 5), func(e *api.Entity) { e.Age = 7 }), with(player(2, 5, 5), func(e *api.Entity) { e.Owner = 1 }),
		shot(999, 5, 5, 1), shot(2, 5, 5, 1), shot(1<<31, 5, 5, 1), shot(2000, 5, 5, 0), shot(2000, 5, 5, 7), with(shot(2000, 5, 5, 1), func(e *api.Entity) { e.Vx = 0 }), with(shot(2000, 5, 5, 1), func(e *api.Entity) { e.Age = 13 }), hurt(shot(2000, 5, 5, 1), 2),
		gem(999, 5, 5), gem(2, 5, 5), hurt(gem(2000, 5, 5), 0), with(gem(2000, 5, 5), func(e *api.Entity) { e.Age = 1 }), with(gem(2000, 5, 5), func(e *api.Entity) { e.Vx = 160 }), with(gem(2000, 5, 5), func(e *api.Entity) { e.Owner = 1 }),
		gem(2000, -1, 5), gem(2000, 5, -1), gem(2000, 2048, 5), gem(2000, math.MinInt, math.MinInt),
	}
	for _, kind := range otherKinds() {
		wrong = append(wrong, with(gem(2000, 5, 5), func(e *api.Entity) { e.Kind = kind }))
	}
	others := []api.Entity{player(1, 9, 9), player(6, 99, 99), gem(1000, 100, 5), shot(5000, 200, 200, 3)}
	checkRight(t, g, 0, at(7, others...), true)
	for _, e := range wrong {
		checkRight(t, g, 0, at(7, e), false)
		checkRight(t, g, 0, at(7, entity.Put(others, e)...), false)
	}
	for _, e := range []api.Entity{player(2, 5, 5), hurt(player(2, 5, 5), 1), gem(2000, 5, 5), gem(1<<31-1, 5, 5), shot(2000, 5, 5, 6)} {
		checkRight(t, g, 0, at(7, e), true)
		checkRight(t, g, 0, at(7, entity.Put(others, e)...), true)
	}
}

func TestRightSorted(t *testing.T) {
	g := arena(t, 2, 1)
	for _, r := range []struct {
		l    []api.Entity
		want bool
	}{
		{[]api.Entity{player(1, 5, 5), player(2, 5, 5), gem(1000, 5, 5), gem(1001, 5, 5)}, true},
		{[]api.Entity{player(2, 5, 5), player(1, 5, 5)}, false}, {[]api.Entity{player(1, 5, 5), player(1, 5, 5)}, false}, {[]api.Entity{player(1, 5, 5), player(1, 6, 6)}, false},
		{[]api.Entity{gem(1000, 5, 5), player(1, 5, 5)}, false}, {[]api.Entity{player(1, 5, 5), gem(1001, 5, 5), gem(1000, 5, 5)}, false}, {[]api.Entity{gem(1000, 5, 5), shot(1000, 5, 5, 1)}, false},
		{[]api.Entity{player(1, 5, 5), player(2, 5, 5), player(4, 5, 5), player(3, 5, 5)}, false}, {[]api.Entity{player(3, 5, 5), player(1, 5, 5), player(2, 5, 5)}, false},
	} {
		checkRight(t, g, 0, at(7, r.l...), r.want)
	}
}

// TestRightThings: at most 24, of both kinds together; players do not count.
func TestRightThings(t *testing.T) {
	g := arena(t, 2, 1)
	var all []api.Entity
	for id := 1; id <= 6; id++ {
		all = append(all, player(id, 9, 9))
	}
	for n := range 40 {
		things := someGems(n, 1000, 5, 5)
		mixed := slices.Clone(things)
		for i := range mixed {
			if i%2 == 1 {
				mixed[i] = shot(1000+i, 5, 5, 1)
			}
		}
		for _, l := range [][]api.Entity{things, mixed} {
			checkRight(t, g, 0, at(7, l...), n <= 24)
			checkRight(t, g, 0, at(7, slices.Concat(all, l)...), n <= 24)
		}
	}
}

func TestArrive(t *testing.T) {
	g := arena(t, 2, 1)
	s := at(5, player(2, 10, 10), player(4, 20, 20), gem(1000, 5, 5), shot(1002, 7, 7, 1))
	for _, r := range []struct{ inbox, want []api.Entity }{
		{nil, s.Entities},
		{list(player(1, 9, 9)), entity.Put(s.Entities, player(1, 9, 9))},
		{list(player(3, 9, 9)), entity.Put(s.Entities, player(3, 9, 9))},
		{list(player(6, 9, 9), gem(1001, 8, 8), shot(1003, 8, 8, 2)), entity.Put(s.Entities, player(6, 9, 9), gem(1001, 8, 8), shot(1003, 8, 8, 2))},
		// A number that is there already, also of another kind: who is there stays as it is.
		{list(player(2, 9, 9)), s.Entities}, {list(gem(1000, 9, 9)), s.Entities}, {list(shot(1000, 9, 9, 3)), s.Entities}, {list(gem(1002, 9, 9)), s.Entities},
		{list(gem(2, 9, 9)), s.Entities}, {list(player(1000, 9, 9)), s.Entities},
		// Twice in the inbox: the first one comes.
		{list(player(1, 9, 9), player(1, 8, 8), player(2, 7, 7), player(3, 6, 6)), entity.Put(s.Entities, player(1, 9, 9), player(3, 6, 6))},
		{list(gem(1001, 9, 9), shot(1001, 8, 8, 1)), entity.Put(s.Entities, gem(1001, 9, 9))},
		{list(shot(1001, 8, 8, 1), gem(1001, 9, 9)), entity.Put(s.Entities, shot(1001, 8, 8, 1))},
	} {
		checkArrive(t, g, 0, s, r.inbox, r.want)
		checkArrive(t, g, 0, s, r.inbox, r.want, blast(1, 0, 4, 5, 5))
		checkArrive(t, g, 0, api.Region{Frame: 5}, s.Entities, s.Entities)
	}
	checkArrive(t, g, 0, at(5), nil, nil)
	checkArrive(t, g, 0, at(5), list(gem(1000, 5, 5)), list(gem(1000, 5, 5)))
}

// TestArriveKinds: only Handoffs bring somebody, whatever else a message has.
func TestArriveKinds(t *testing.T) {
	g := arena(t, 2, 1)
	s := at(5, player(2, 10, 10))
	for _, kind := range append(otherKinds(), api.Blast) {
		if kind == api.Handoff {
			continue
		}
		c := hand(1, 0, 4, player(1, 9, 9))
		c.Kind, c.X, c.Y = kind, 9, 9
		checkInbox(t, g, 0, s, []api.Cross{c}, s.Entities)
		checkInbox(t, g, 0, s, []api.Cross{c, hand(1, 0, 4, player(3, 9, 9)), c}, []api.Entity{player(2, 10, 10), player(3, 9, 9)})
	}
	// One of an unknown kind is no player: it comes as a thing does.
	for _, kind := range otherKinds() {
		e := with(gem(2000, 5, 5), func(e *api.Entity) { e.Kind = kind })
		checkArrive(t, g, 0, s, []api.Entity{e}, []api.Entity{player(2, 10, 10), e})
		full := at(5, someGems(24, 3000, 5, 5)...)
		checkArrive(t, g, 0, full, []api.Entity{e}, full.Entities)
	}
}

// TestArriveFull: where 24 things are, players come, and things do not; the first ones of the inbox come, not those with the least numbers.
func TestArriveFull(t *testing.T) {
	g := arena(t, 2, 1)
	for n := range 30 {
		s := at(5, someGems(n, 2000, 5, 5)...)
		in := []api.Entity{shot(3000, 9, 9, 1), player(1, 9, 9), gem(1500, 9, 9), player(2, 9, 9), gem(2000, 9, 9), shot(1400, 9, 9, 1), player(3, 9, 9)}
		want := entity.Put(s.Entities, player(1, 9, 9), player(2, 9, 9), player(3, 9, 9))
		free := max(0, 24-n)
		for _, e := range []api.Entity{shot(3000, 9, 9, 1), gem(1500, 9, 9), gem(2000, 9, 9), shot(1400, 9, 9, 1)} {
			if free > 0 && entity.Find(want, e.Id) < 0 {
				want, free = entity.Put(want, e), free-1
			}
		}
		checkArrive(t, g, 0, s, in, want)
	}
	// One whose number is there takes no room.
	s := at(5, someGems(23, 2000, 5, 5)...)
	checkArrive(t, g, 0, s, []api.Entity{gem(2005, 9, 9), gem(2006, 9, 9), gem(3000, 9, 9), gem(3001, 9, 9)}, entity.Put(s.Entities, gem(3000, 9, 9)))
	// Players that are there already take no room either.
	var l []api.Entity
	for id := 1; id <= 6; id++ {
		l = append(l, player(id, 9, 9))
	}
	l = append(l, someGems(23, 2000, 5, 5)...)
	checkArrive(t, g, 0, at(5, l...), []api.Entity{gem(3000, 9, 9), gem(3001, 9, 9)}, append(slices.Clone(l), gem(3000, 9, 9)))
}

// TestArriveAnything: neither the grid nor the region nor what is right plays a part.
func TestArriveAnything(t *testing.T) {
	odd := []api.Entity{gem(5, 5, 5), player(math.MaxInt, math.MinInt, 0), player(-3, 0, 0), gem(5, 6, 6), {}}
	want := []api.Entity{player(-7, 1, 1), gem(5, 5, 5), player(math.MaxInt, math.MinInt, 0), player(-3, 0, 0), gem(5, 6, 6), {}}
	grids := append(untold(), arena(t, 1, 1), arena(t, 3, 2))
	for _, g := range grids {
		for _, r := range append(extremes(), 0, 1, 6) {
			for _, frame := range append(extremes(), 0, 10_000, 10_001) {
				s := api.Region{Frame: frame, Entities: odd}
				checkInbox(t, g, r, s, nil, odd)
				checkInbox(t, g, r, s, []api.Cross{{Kind: api.Handoff, From: -1, To: r ^ 1, Frame: math.MaxInt, Entity: player(-7, 1, 1), X: 5, Y: math.MinInt}, {Kind: api.Handoff, Entity: gem(-3, 1, 1)}, {Kind: api.Handoff}}, want)
			}
		}
	}
}

func TestPresentOrder(t *testing.T) {
	g := arena(t, 2, 2)
	s := at(5, player(2, 10, 10), player(5, 20, 20), gem(1000, 5, 5))
	in := []api.Cross{hand(1, 0, 4, player(6, 9, 9)), blast(2, 0, 4, 5, 5), hand(1, 0, 4, shot(1001, 9, 9, 4)), hand(2, 0, 4, player(1, 9, 9)), hand(3, 0, 4, player(5, 9, 9)), hand(3, 0, 4, player(3, 9, 9))}
	for i, want := range [][]int{{2, 5}, {2, 5, 6}, {2, 5, 6}, {2, 5, 6}, {1, 2, 5, 6}, {1, 2, 5, 6}, {1, 2, 3, 5, 6}} {
		if got := Present(g, 0, s, in[:i]...); !slices.Equal(got, want) {
			t.Errorf("P9.1: Present with %d messages: %v; want %v", i, got, want)
		}
	}
	if got := Present(g, 0, at(5, gem(1000, 5, 5))); len(got) != 0 {
		t.Errorf("P9.1: Present of a gem: %v", got)
	}
	// The numbers are as the list has them, also where it is not sorted.
	if got := Present(g, 0, at(5, player(4, 5, 5), player(1, 5, 5), player(4, 6, 6))); !slices.Equal(got, []int{4, 1, 4}) {
		t.Errorf("P9.1: Present of a list that is not sorted: %v", got)
	}
}

// call is one of Step.
type call struct {
	g      grid.Grid
	r      int
	s      api.Region
	inputs []api.Input
	inbox  []api.Cross
}

// checkStep asks for Step, twice.
func checkStep(t *testing.T, c call, want api.Region, out []api.Cross, no api.Errno) {
	t.Helper()
	a := give(c.s, c.inputs, c.inbox)
	s := api.Region{Frame: c.s.Frame, Entities: a.entities}
	first, firstOut, e1 := Step(c.g, c.r, s, a.inputs, a.inbox...)
	second, secondOut, e2 := Step(c.g, c.r, s, a.inputs, a.inbox...)
	same := func(s api.Region, l []api.Cross, e api.Errno) bool {
		return e == no && s.Frame == want.Frame && slices.Equal(s.Entities, want.Entities) && slices.Equal(l, out)
	}
	if !same(first, firstOut, e1) {
		t.Errorf("P9.2: Step of the region %d of %d by %d, %+v, with %+v and %+v:\n%+v, %+v, error %d; want\n%+v, %+v, error %d", c.r, c.g.Cols, c.g.Rows, c.s, c.inputs, c.inbox, first, firstOut, e1, want, out, no)
	}
	overwrite(first.Entities, api.Entity{Id: -9})
	overwrite(firstOut, api.Cross{Kind: -9})
	if !same(second, secondOut, e2) {
		t.Errorf("R2, R3: a second Step of %+v: %+v, %+v, error %d; want %+v, %+v", c.s, second, secondOut, e2, want, out)
	}
	a.stays(t, "Step")
}

// none is inputs of six players who do nothing.
func none() []api.Input { return make([]api.Input, 6) }

// doing is inputs of six players of whom one does something.
func doing(id int, i api.Input) []api.Input {
	l := none()
	l[id-1] = i
	return l
}

// quiet is a frame from one on in which no gem comes to a region, lucky one in which it does.
func quiet(g grid.Grid, frame, r int) int {
	for chance.Below(8, g.Seed, 3, frame, r) == 0 {
		frame++
	}
	return frame
}

func lucky(g grid.Grid, frame, r int) int {
	for chance.Below(8, g.Seed, 3, frame, r) != 0 {
		frame++
	}
	return frame
}

// good is a call that is not refused.
func good(t *testing.T) call {
	t.Helper()
	g := arena(t, 3, 2)
	f := quiet(g, 40, 1)
	return call{g, 1, at(f, player(1, 1500, 500), gem(1000, 1100, 5)), none(), []api.Cross{hand(0, 1, f-1, player(2, 1100, 800)), blast(5, 1, f-1, 2500, 2000)}}
}

// spoils is, of each error in their order, what makes a call have it.
func spoils() [][]func(c *call) {
	var regions, forms, inputs, args, ends []func(c *call)
	for _, r := range append(extremes(), 6, 7) {
		regions = append(regions, func(c *call) { c.r = r })
	}
	regions = append(regions, func(c *call) { c.g = grid.Grid{} }, func(c *call) { c.g.Players = 7 })
	for _, frame := range []int{-1, 10_001, math.MinInt, math.MaxInt} {
		forms = append(forms, func(c *call) { c.s.Frame = frame })
	}
	for _, e := range []api.Entity{{Id: 6}, player(6, 5, 5), hurt(player(6, 1500, 500), 0), gem(6, 1500, 500)} {
		forms = append(forms, func(c *call) { c.s.Entities = entity.Put(c.s.Entities, e) })
	}
	forms = append(forms,
		func(c *call) { c.s.Entities = append([]api.Entity{gem(5000, 1030, 5)}, c.s.Entities...) },
		func(c *call) { c.s.Entities = append(slices.Clone(c.s.Entities), someGems(24, 2000, 1030, 5)...) })
	for _, i := range []api.Input{{Dx: 3}, {Dx: -3}, {Dy: 3}, {Dy: -3, Fire: true}, {Dx: math.MinInt}, {Dy: math.MaxInt}, {Dx: 1 << 32}} {
		inputs = append(inputs, func(c *call) { c.inputs = doing(6, i) }, func(c *call) { c.inputs = doing(1, i) })
	}
	for _, n := range []int{0, 1, 5, 7, 12} {
		inputs = append(inputs, func(c *call) { c.inputs = make([]api.Input, n) })
	}
	spoil := func(change func(m *api.Cross)) {
		args = append(args, func(c *call) { c.inbox = slices.Clone(c.inbox); change(&c.inbox[0]) }, func(c *call) { c.inbox = slices.Clone(c.inbox); change(&c.inbox[1]) })
	}
	spoil(func(m *api.Cross) { m.Frame-- })
	spoil(func(m *api.Cross) { m.Frame++ })
	spoil(func(m *api.Cross) { m.Frame = -1 })
	spoil(func(m *api.Cross) { m.Frame = math.MinInt })
	spoil(func(m *api.Cross) { m.To = 0; m.From = 0 })
	spoil(func(m *api.Cross) { m.From = 6 })
	spoil(func(m *api.Cross) { m.From = -1 })
	spoil(func(m *api.Cross) { m.Kind = 3 })
	spoil(func(m *api.Cross) { *m = api.Cross{} })
	spoil(func(m *api.Cross) { m.Entity.Age = 77 })
	spoil(func(m *api.Cross) { m.X = -1 })
	// Right messages, but to another region, or of another frame.
	args = append(args, func(c *call) { c.inbox = append(slices.Clone(c.inbox), blast(1, 2, c.inbox[0].Frame, 5, 5)) },
		func(c *call) {
			c.inbox = append(slices.Clone(c.inbox), hand(1, 2, c.inbox[0].Frame, player(3, 2500, 5)))
		},
		func(c *call) { c.inbox = append(slices.Clone(c.inbox), blast(1, 1, c.inbox[0].Frame-3, 5, 5)) })
	ends = append(ends, func(c *call) {
		c.s.Frame = 10_000
		for i := range c.inbox {
			c.inbox[i].Frame = 9_999
		}
	}, func(c *call) { c.s.Frame, c.inbox = 10_000, nil })
	return [][]func(c *call){regions, forms, inputs, args, ends}
}

// TestStepErrors: each error by itself.
func TestStepErrors(t *testing.T) {
	wants := []api.Errno{api.ErrRegion, api.ErrForm, api.ErrInput, api.ErrArg, api.ErrEnd}
	if _, _, e := Step(good(t).g, good(t).r, good(t).s, good(t).inputs, good(t).inbox...); e != api.OK {
		t.Fatalf("P9.2: a call that may be: error %d", e)
	}
	for n, l := range spoils() {
		for _, spoil := range l {
			c := good(t)
			spoil(&c)
			checkStep(t, c, api.Region{}, nil, wants[n])
		}
	}
}

// TestStepErrorsOrder: of two errors and more the one that is named first counts.
func TestStepErrorsOrder(t *testing.T) {
	wants := []api.Errno{api.ErrRegion, api.ErrForm, api.ErrInput, api.ErrArg, api.ErrEnd}
	all := spoils()
	for a := range all {
		for b := a + 1; b < len(all); b++ {
			for _, first := range all[a] {
				for _, second := range all[b] {
					c := good(t)
					// The end comes ahead of what spoils the frame or the inbox further.
					second(&c)
					if b == 4 && a == 3 && c.inbox == nil {
						continue
					}
					first(&c)
					checkStep(t, c, api.Region{}, nil, wants[a])
				}
			}
		}
	}
	// All at once, then one less each time.
	for from := range all {
		c := good(t)
		for n := len(all) - 1; n >= from; n-- {
			all[n][0](&c)
		}
		checkStep(t, c, api.Region{}, nil, wants[from])
	}
}

// TestStepFrames: the first frame has no inbox, and the last one is no frame.
func TestStepFrames(t *testing.T) {
	eachRegion(t, func(g grid.Grid, r int) {
		for _, f := range []int{0, 1, 2, 9_998, 9_999} {
			want := at(f + 1)
			if chance.Below(8, g.Seed, 3, f, r) == 0 {
				want.Entities = []api.Entity{gemOf(g, r, f, 0)}
			}
			checkStep(t, call{g, r, at(f), none(), nil}, want, nil, api.OK)
			x, y := g.Corner(r)
			no := api.OK
			if f == 0 {
				no, want = api.ErrArg, api.Region{}
			}
			checkStep(t, call{g, r, at(f), none(), []api.Cross{blast(r, r, f-1, x, y)}}, want, nil, no)
		}
		checkStep(t, call{g, r, at(10_000), none(), nil}, api.Region{}, nil, api.ErrEnd)
		checkStep(t, call{g, r, at(10_000), none(), []api.Cross{blast(r, r, 9_999, 5, 5)}}, api.Region{}, nil, api.ErrEnd)
		checkStep(t, call{g, r, at(10_000), none(), []api.Cross{blast(r, r, 9_998, 5, 5)}}, api.Region{}, nil, api.ErrArg)
	})
}

// gemOf is the gem that comes to a region in a frame in which it is the k-th new thing.
func gemOf(g grid.Grid, r, f, k int) api.Entity {
	x, y := r%g.Cols*1024, r/g.Cols*1024
	return gem(1000+(f*g.Cols*g.Rows+r)*8+k, x+chance.Below(1024, g.Seed, 4, f, r), y+chance.Below(1024, g.Seed, 5, f, r))
}

// TestStepAnything: no call panics, whatever it is given.
func TestStepAnything(t *testing.T) {
	odd := []api.Entity{gem(5, 5, 5), player(math.MaxInt, math.MinInt, 0), player(-3, 0, 0), {Id: math.MinInt, Kind: 1}, {}}
	for _, g := range append(untold(), arena(t, 1, 1), arena(t, 4, 4)) {
		for _, r := range append(extremes(), 0, 1, 15) {
			for _, frame := range append(extremes(), 0, 10_000) {
				for _, n := range []int{0, 1, 6} {
					s, out, e := Step(g, r, at(frame, odd...), make([]api.Input, n), api.Cross{Kind: math.MinInt, To: r, Frame: frame - 1})
					if e != api.ErrRegion && e != api.ErrForm || s.Frame != 0 || len(s.Entities)+len(out) > 0 {
						t.Fatalf("P9.2: Step of what is not right: %+v, %+v, error %d", s, out, e)
					}
				}
			}
		}
	}
}

// TestStepPlayers: there are as many inputs as players, wherever they are.
func TestStepPlayers(t *testing.T) {
	for players := 1; players <= 6; players++ {
		g, _ := grid.New(api.Config{Cols: 1, Rows: 1, Players: players, Window: 1, Seed: 3})
		f := quiet(g, 0, 0)
		for n := range 9 {
			want, no := at(f+1), api.OK
			if n != players {
				want, no = api.Region{}, api.ErrInput
			}
			checkStep(t, call{g, 0, at(f), make([]api.Input, n), nil}, want, nil, no)
		}
		checkStep(t, call{g, 0, at(f, player(players+1, 5, 5)), make([]api.Input, players), nil}, api.Region{}, nil, api.ErrForm)
	}
}

// sortedOut: is what is emitted in its order, and right?
func sortedOut(g grid.Grid, r, f int, l []api.Cross) bool {
	for i, c := range l {
		if !cross.Right(g, c) || c.From != r || c.Frame != f || i > 0 && cross.Less(c, l[i-1]) {
			return false
		}
	}
	return true
}
