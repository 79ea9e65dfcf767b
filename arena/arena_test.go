package arena

import (
	"math"
	"slices"
	"testing"

	"joust/api"
	"joust/grid"
)

// config is an arena's of some players.
func config(cols, rows, players int) api.Config {
	return api.Config{Cols: cols, Rows: rows, Players: players, Window: 4, Seed: 77}
}

// gridOf is the grid of c.
func gridOf(t *testing.T, c api.Config) grid.Grid {
	t.Helper()
	g, e := grid.New(c)
	if e != api.OK {
		t.Fatalf("no arena of %+v: error %d", c, e)
	}
	return g
}

// wrongConfigs is such as no arena has, each with one field beyond its bounds, or more of them.
func wrongConfigs() []api.Config {
	l := []api.Config{{}, {Seed: 77}}
	for _, v := range []int{math.MinInt, -1 << 32, -1, 0, 5, 1<<32 + 1, math.MaxInt} {
		c, d := config(2, 2, 4), config(2, 2, 4)
		c.Cols, d.Rows = v, v
		l = append(l, c, d)
	}
	for _, v := range []int{math.MinInt, -1, 0, 7, 1<<32 + 1, math.MaxInt} {
		c := config(2, 2, 4)
		c.Players = v
		l = append(l, c)
	}
	for _, v := range []int{math.MinInt, -1, 0, 17, 1<<32 + 1, math.MaxInt} {
		c := config(2, 2, 4)
		c.Window = v
		l = append(l, c)
	}
	return l
}

// extremes is numbers that are no small ones.
func extremes() []int {
	return []int{math.MinInt, math.MinInt + 1, -1 << 32, -1 << 31, -1, 1 << 31, 1 << 32, 1<<32 + 1, math.MaxInt - 1, math.MaxInt}
}

// player, shot and gem are entities that may be anywhere.
func player(id, x, y int) api.Entity {
	return api.Entity{Id: id, Kind: api.Player, X: x, Y: y, Health: 100}
}

func shot(id, x, y, owner int) api.Entity {
	return api.Entity{Id: id, Kind: api.Shot, X: x, Y: y, Vx: 160, Health: 1, Owner: owner}
}

func gem(id, x, y int) api.Entity {
	return api.Entity{Id: id, Kind: api.Gem, X: x, Y: y, Health: 1}
}

// hurt is e with another health.
func hurt(e api.Entity, health int) api.Entity {
	e.Health = health
	return e
}

// list is its entities, box its messages.
func list(l ...api.Entity) []api.Entity { return l }

func box(l ...api.Cross) []api.Cross { return l }

// hand brings e from a region to another one.
func hand(from, to, frame int, e api.Entity) api.Cross {
	return api.Cross{Kind: api.Handoff, From: from, To: to, Frame: frame, Entity: e}
}

// blast is one.
func blast(from, to, frame, x, y int) api.Cross {
	return api.Cross{Kind: api.Blast, From: from, To: to, Frame: frame, X: x, Y: y}
}

// nearTo is the regions around r and r itself, counted by the tests.
func nearTo(cols, rows, r int) []int {
	var l []int
	for row := r/cols - 1; row <= r/cols+1; row++ {
		for col := r%cols - 1; col <= r%cols+1; col++ {
			if row >= 0 && row < rows && col >= 0 && col < cols {
				l = append(l, row*cols+col)
			}
		}
	}
	return l
}

// roomy is a copy of l with room behind its end, filled.
func roomy[T any](l []T, filler T) []T {
	return append(slices.Clone(l), filler, filler, filler)[:len(l)]
}

// overwrite writes into all memory of l, also into the room behind its end.
func overwrite[T any](l []T, filler T) {
	l = l[:cap(l)]
	for i := range l {
		l[i] = filler
	}
}

// same is R9: nil and an empty list are the same.
func same(a, b api.World) bool {
	region := func(a, b api.Region) bool { return a.Frame == b.Frame && slices.Equal(a.Entities, b.Entities) }
	return slices.EqualFunc(a.Regions, b.Regions, region) && slices.EqualFunc(a.Outs, b.Outs, slices.Equal[[]api.Cross])
}

// copyOuts is outs with room behind each end: theirs, and that of each list.
func copyOuts(outs [][]api.Cross) [][]api.Cross {
	l := roomy(outs, box(blast(0, 0, 5, 55, 55)))
	for i := range l {
		l[i] = roomy(l[i], hand(0, 0, 5, player(4, 44, 44)))
	}
	return l
}

// copyWorld is w with room behind each end.
func copyWorld(w api.World) api.World {
	l := roomy(w.Regions, api.Region{Frame: 77, Entities: list(gem(7777, 7, 7))})
	for i := range l {
		l[i].Entities = roomy(l[i].Entities, player(3, 33, 33))
	}
	return api.World{Regions: l, Outs: copyOuts(w.Outs)}
}

// whole is w with all the room behind its ends, as lists of their own.
func whole(w api.World) api.World {
	var all api.World
	for _, s := range w.Regions[:cap(w.Regions)] {
		all.Regions = append(all.Regions, api.Region{Frame: s.Frame, Entities: slices.Clone(s.Entities[:cap(s.Entities)])})
	}
	for _, out := range w.Outs[:cap(w.Outs)] {
		all.Outs = append(all.Outs, slices.Clone(out[:cap(out)]))
	}
	return all
}

// apart asks for R3 of an answer: each of its lists, and the room behind its end, is memory of its own. It writes into all of it.
func apart(t *testing.T, name string, w api.World) {
	t.Helper()
	for r := range w.Regions {
		overwrite(w.Regions[r].Entities, api.Entity{Id: -1 - r})
	}
	for r := range w.Outs {
		overwrite(w.Outs[r], api.Cross{From: -1 - r})
	}
	for r, s := range w.Regions {
		if slices.ContainsFunc(s.Entities[:cap(s.Entities)], func(e api.Entity) bool { return e.Id != -1-r }) {
			t.Errorf("R3: %s: the Entities of the region %d share memory with others", name, r)
		}
	}
	for r, out := range w.Outs {
		if slices.ContainsFunc(out[:cap(out)], func(c api.Cross) bool { return c.From != -1-r }) {
			t.Errorf("R3: %s: the Outs of the region %d share memory with others", name, r)
		}
	}
	overwrite(w.Regions, api.Region{Frame: -9})
	overwrite(w.Outs, box(api.Cross{Kind: -9}))
}

// checkBegin asks for Begin, twice.
func checkBegin(t *testing.T, c api.Config, want api.World, no api.Errno) {
	t.Helper()
	first, e1 := Begin(c)
	second, e2 := Begin(c)
	if e1 != no || !same(first, want) {
		t.Errorf("P10.1: Begin of %+v: %+v, error %d; want %+v, error %d", c, first, e1, want, no)
	}
	apart(t, "Begin", first)
	if e2 != no || !same(second, want) {
		t.Errorf("R2, R3: a second Begin of %+v: %+v, error %d; want %+v, error %d", c, second, e2, want, no)
	}
}

func TestBeginWritten(t *testing.T) {
	still := func(l ...[]api.Entity) api.World {
		var w api.World
		for _, r := range l {
			w.Regions, w.Outs = append(w.Regions, api.Region{Entities: r}), append(w.Outs, nil)
		}
		return w
	}
	// One region, and one player, or all.
	checkBegin(t, config(1, 1, 1), still(list(player(1, 512, 512))), api.OK)
	checkBegin(t, config(1, 1, 6), still(list(player(1, 512, 512), player(2, 512, 512), player(3, 512, 512), player(4, 512, 512), player(5, 512, 512), player(6, 512, 512))), api.OK)
	// More players than regions.
	checkBegin(t, config(2, 1, 3), still(list(player(1, 512, 512), player(3, 512, 512)), list(player(2, 1536, 512))), api.OK)
	checkBegin(t, config(1, 2, 5), still(list(player(1, 512, 512), player(3, 512, 512), player(5, 512, 512)), list(player(2, 512, 1536), player(4, 512, 1536))), api.OK)
	checkBegin(t, config(2, 2, 6), still(list(player(1, 512, 512), player(5, 512, 512)), list(player(2, 1536, 512), player(6, 1536, 512)), list(player(3, 512, 1536)), list(player(4, 1536, 1536))), api.OK)
	// As many.
	checkBegin(t, config(3, 2, 6), still(list(player(1, 512, 512)), list(player(2, 1536, 512)), list(player(3, 2560, 512)), list(player(4, 512, 1536)), list(player(5, 1536, 1536)), list(player(6, 2560, 1536))), api.OK)
	// Fewer.
	checkBegin(t, config(2, 2, 3), still(list(player(1, 512, 512)), list(player(2, 1536, 512)), list(player(3, 512, 1536)), nil), api.OK)
	checkBegin(t, config(1, 4, 2), still(list(player(1, 512, 512)), list(player(2, 512, 1536)), nil, nil), api.OK)
}

// TestBegin: all arenas with all numbers of players; neither the Seed nor the Window plays a part.
func TestBegin(t *testing.T) {
	for cols := 1; cols <= 4; cols++ {
		for rows := 1; rows <= 4; rows++ {
			for players := 1; players <= 6; players++ {
				n := cols * rows
				want := api.World{Regions: make([]api.Region, n), Outs: make([][]api.Cross, n)}
				for r := range n {
					for id := r + 1; id <= players; id += n {
						want.Regions[r].Entities = append(want.Regions[r].Entities, player(id, 1024*(r%cols)+512, 1024*(r/cols)+512))
					}
				}
				checkBegin(t, config(cols, rows, players), want, api.OK)
				for window, seed := range map[int]uint64{1: 0, 16: math.MaxUint64} {
					c := config(cols, rows, players)
					c.Window, c.Seed = window, seed
					checkBegin(t, c, want, api.OK)
				}
			}
		}
	}
}

func TestBeginRefused(t *testing.T) {
	for _, c := range wrongConfigs() {
		checkBegin(t, c, api.World{}, api.ErrConfig)
	}
}

// checkInbox asks for Inbox, twice.
func checkInbox(t *testing.T, g grid.Grid, outs [][]api.Cross, r int, want []api.Cross) {
	t.Helper()
	given := api.World{Outs: copyOuts(outs)}
	was := whole(given)
	first, second := Inbox(g, given.Outs, r), Inbox(g, given.Outs, r)
	if !slices.Equal(first, want) {
		t.Errorf("P10.1: Inbox of the region %d of %d by %d, of %+v: %+v; want %+v", r, g.Cols, g.Rows, outs, first, want)
	}
	overwrite(first, api.Cross{Kind: -9})
	if !slices.Equal(second, want) || !same(whole(given), was) {
		t.Errorf("R2, R3: a second Inbox of the region %d: %+v; want %+v; what was handed in is %+v", r, second, want, given.Outs)
	}
}

// TestInboxNear: each region sends three messages to each one; of them those of the near regions come, in their order.
func TestInboxNear(t *testing.T) {
	g := gridOf(t, config(3, 3, 4))
	outs := make([][]api.Cross, 9)
	for from := range outs {
		// The regions they go to fall, so that the order in a list is not that of the regions.
		for to := 8; to >= 0; to-- {
			outs[from] = append(outs[from], blast(from, to, 7, 9, 9), hand(from, to, 7, gem(1000+from, 5, 5)), blast(from, to, 7, 3, 3))
		}
	}
	for r, near := range [][]int{{0, 1, 3, 4}, {0, 1, 2, 3, 4, 5}, {1, 2, 4, 5}, {0, 1, 3, 4, 6, 7}, {0, 1, 2, 3, 4, 5, 6, 7, 8}, {1, 2, 4, 5, 7, 8}, {3, 4, 6, 7}, {3, 4, 5, 6, 7, 8}, {4, 5, 7, 8}} {
		var want []api.Cross
		for _, from := range near {
			want = append(want, blast(from, r, 7, 9, 9), hand(from, r, 7, gem(1000+from, 5, 5)), blast(from, r, 7, 3, 3))
		}
		checkInbox(t, g, outs, r, want)
	}
}

// TestInbox: all arenas, with outs of fewer regions, and of more, than there are.
func TestInbox(t *testing.T) {
	for cols := 1; cols <= 4; cols++ {
		for rows := 1; rows <= 4; rows++ {
			g := gridOf(t, config(cols, rows, 2))
			for n := range 19 {
				outs := make([][]api.Cross, n)
				for from := range outs {
					for to := range 19 {
						outs[from] = append(outs[from], blast(from, to, 3, from, to))
					}
				}
				for r := range cols * rows {
					var want []api.Cross
					for _, from := range nearTo(cols, rows, r) {
						if from < n {
							want = append(want, blast(from, r, 3, from, r))
						}
					}
					checkInbox(t, g, outs, r, want)
				}
				for _, r := range append(extremes(), cols*rows, 18) {
					checkInbox(t, g, outs, r, nil)
				}
			}
		}
	}
}

// TestInboxLists: it is the list's place that tells from where a message comes, and its To where it goes: nothing else is asked.
func TestInboxLists(t *testing.T) {
	g := gridOf(t, config(3, 1, 2))
	odd := box(api.Cross{To: 1}, api.Cross{Kind: -3, From: 99, To: 1, Frame: math.MinInt}, hand(2, 1, 7, player(1, 5, 5)), blast(0, 1, -1, math.MaxInt, 5))
	others := box(blast(0, 0, 7, 1, 1), blast(0, 2, 7, 1, 1), blast(1, -1, 7, 1, 1), blast(1, 3, 7, 1, 1), blast(1, math.MaxInt, 7, 1, 1), blast(1, 1<<32+1, 7, 1, 1))
	checkInbox(t, g, [][]api.Cross{slices.Concat(others, odd), nil, others}, 1, odd)
	checkInbox(t, g, [][]api.Cross{odd, odd[:2], slices.Concat(odd[2:], odd)}, 1, slices.Concat(odd, odd[:2], odd[2:], odd))
	checkInbox(t, g, [][]api.Cross{nil, nil, box(blast(0, 0, 7, 5, 5))}, 0, nil)
	checkInbox(t, g, [][]api.Cross{nil, box(blast(2, 0, 7, 5, 5))}, 0, box(blast(2, 0, 7, 5, 5)))
	// What is to a region that there is not goes nowhere.
	for _, r := range append(extremes(), 3, 4) {
		checkInbox(t, g, [][]api.Cross{box(blast(0, r, 7, 5, 5)), box(blast(1, r, 7, 5, 5)), box(blast(2, r, 7, 5, 5)), box(blast(3, r, 7, 5, 5))}, r, nil)
	}
	for _, outs := range [][][]api.Cross{nil, {}, {nil}, {nil, nil, nil}, make([][]api.Cross, 40)} {
		checkInbox(t, g, outs, 1, nil)
	}
}

// TestInboxUntold: where there is no grid there is no near region.
func TestInboxUntold(t *testing.T) {
	for _, c := range wrongConfigs() {
		for _, r := range append(extremes(), 0, 1) {
			checkInbox(t, grid.Grid{Config: c}, [][]api.Cross{box(blast(0, r, 7, 5, 5)), box(blast(1, r, 7, 5, 5))}, r, nil)
		}
	}
}

// checkAll asks for All, twice.
func checkAll(t *testing.T, w api.World, want []api.Entity) {
	t.Helper()
	given := copyWorld(w)
	was := whole(given)
	first, second := All(given), All(given)
	if !slices.Equal(first, want) {
		t.Errorf("P10.1: All of %+v: %+v; want %+v", w, first, want)
	}
	overwrite(first, api.Entity{Id: -9})
	if !slices.Equal(second, want) || !same(whole(given), was) {
		t.Errorf("R2, R3: a second All: %+v; want %+v; what was handed in is %+v", second, want, given)
	}
}

func TestAll(t *testing.T) {
	in := func(l ...[]api.Entity) []api.Region {
		var regions []api.Region
		for i, e := range l {
			regions = append(regions, api.Region{Frame: 8 + i, Entities: e})
		}
		return regions
	}
	a, b, c, d := player(1, 10, 10), player(2, 20, 20), shot(1000, 30, 30, 1), gem(1001, 40, 40)
	for _, r := range []struct {
		w    api.World
		want []api.Entity
	}{
		{api.World{}, nil},
		{api.World{Regions: in(nil, nil), Outs: make([][]api.Cross, 2)}, nil},
		{api.World{Regions: in(list(a, b, c, d))}, list(a, b, c, d)},
		{api.World{Regions: in(list(a, c), list(b, d))}, list(a, b, c, d)},
		{api.World{Regions: in(list(b, d), nil, list(a), list(c))}, list(a, b, c, d)},
		// Lists that are not sorted.
		{api.World{Regions: in(list(d, b), list(c, a))}, list(a, b, c, d)},
		// Under way, in one list and in more, and more lists than regions, or fewer.
		{api.World{Outs: [][]api.Cross{box(hand(0, 1, 7, c), hand(0, 1, 7, b)), nil, box(hand(2, 1, 7, a))}}, list(a, b, c)},
		{api.World{Regions: in(list(b)), Outs: [][]api.Cross{nil, box(hand(1, 0, 7, c), hand(1, 0, 7, a))}}, list(a, b, c)},
		{api.World{Regions: in(list(b), list(c), list(d)), Outs: [][]api.Cross{box(hand(1, 0, 7, a))}}, list(a, b, c, d)},
		// What is no Handoff brings nobody.
		{api.World{Regions: in(list(b)), Outs: [][]api.Cross{box(blast(0, 1, 7, 5, 5), hand(0, 1, 7, a), blast(0, 0, 7, 6, 6))}}, list(a, b)},
		// Nobody asks where a message goes, or who it is.
		{api.World{Regions: in(list(b)), Outs: [][]api.Cross{box(hand(9, -4, -1, a), hand(0, 0, 3, api.Entity{}))}}, list(api.Entity{}, a, b)},
	} {
		checkAll(t, r.w, r.want)
	}
}

// TestAllKinds: only a Handoff brings somebody, whatever else a message has; of entities no Kind is asked.
func TestAllKinds(t *testing.T) {
	for _, kind := range append(extremes(), 0, 2, 3, 257, 1<<32+1) {
		c := hand(0, 1, 7, player(1, 10, 10))
		c.Kind = kind
		checkAll(t, api.World{Outs: [][]api.Cross{box(c)}}, nil)
		e := api.Entity{Id: 5, Kind: kind}
		checkAll(t, api.World{Regions: []api.Region{{Entities: list(e)}}, Outs: [][]api.Cross{box(c, hand(0, 1, 7, e))}}, list(e, e))
	}
}

// TestAllNumbers: by numbers up to the ends of int.
func TestAllNumbers(t *testing.T) {
	ids := []int{math.MinInt, math.MinInt + 1, -1 << 32, -1, 0, 1, 2, 999, 1000, 1<<31 - 1, 1 << 32, math.MaxInt - 1, math.MaxInt}
	var want, back []api.Entity
	var out []api.Cross
	for i, id := range ids {
		want = append(want, player(id, i, i))
		back = append(list(player(id, i, i)), back...)
		out = append(box(hand(0, 1, 7, player(id, i, i))), out...)
	}
	checkAll(t, api.World{Regions: []api.Region{{Entities: back}}}, want)
	checkAll(t, api.World{Regions: []api.Region{{Entities: want}}}, want)
	checkAll(t, api.World{Outs: [][]api.Cross{out}}, want)
	checkAll(t, api.World{Regions: []api.Region{{Entities: back[:5]}, {Entities: back[5:9]}}, Outs: [][]api.Cross{nil, out[9:]}}, want)
}

// TestAllTwice: many of few numbers stand as they come: region by region, and behind them what is under way, list by list.
func TestAllTwice(t *testing.T) {
	checkAll(t, api.World{
		Regions: []api.Region{{Entities: list(player(2, 1, 0))}, {Entities: list(player(1, 2, 0), player(2, 2, 0))}},
		Outs:    [][]api.Cross{box(hand(0, 1, 7, player(2, 3, 0)), hand(0, 1, 7, player(1, 3, 0))), box(hand(1, 0, 7, player(2, 4, 0)))},
	}, list(player(1, 2, 0), player(1, 3, 0), player(2, 1, 0), player(2, 2, 0), player(2, 3, 0), player(2, 4, 0)))
	var w api.World
	n := 0
	next := func(id int) api.Entity {
		n++
		return gem(id, n, 0)
	}
	want := make([][]api.Entity, 3)
	for range 16 {
		var s api.Region
		for i := range 24 {
			e := next(i % 3)
			s.Entities, want[i%3] = append(s.Entities, e), append(want[i%3], e)
		}
		w.Regions = append(w.Regions, s)
	}
	for from := range 16 {
		var out []api.Cross
		for i := range 9 {
			e := next(2 - i%3)
			out, want[e.Id] = append(out, hand(from, 0, 7, e), blast(from, 0, 7, 5, 5)), append(want[e.Id], e)
		}
		w.Outs = append(w.Outs, out)
	}
	checkAll(t, w, slices.Concat(want...))
}
