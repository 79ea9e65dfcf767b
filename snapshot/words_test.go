package snapshot

import (
	"math"
	"slices"
	"testing"

	"joust/api"
	"joust/arena"
	"joust/chance"
	"joust/grid"
)

// config is that of an arena of six players.
func config(cols, rows int) api.Config {
	return api.Config{Cols: cols, Rows: rows, Players: 6, Window: 4, Seed: 77}
}

// gridOf is the grid of an arena of six players.
func gridOf(t *testing.T, cols, rows int) grid.Grid {
	t.Helper()
	g, e := grid.New(config(cols, rows))
	if e != api.OK {
		t.Fatalf("no arena of %d columns and %d rows: error %d", cols, rows, e)
	}
	return g
}

// untold is grids that New does not tell.
func untold() []grid.Grid {
	var l []grid.Grid
	for _, c := range []api.Config{{}, {Cols: 2, Rows: 1, Players: 0, Window: 4}, {Cols: 5, Rows: 1, Players: 6, Window: 4}, {Cols: 2, Rows: 1, Players: 6, Window: 17}, {Cols: 2, Rows: -1, Players: 6, Window: 4}, {Cols: math.MaxInt, Rows: math.MaxInt, Players: math.MaxInt, Window: math.MinInt}} {
		l = append(l, grid.Grid{Config: c})
	}
	return l
}

// player, shot and gem are right ones, wherever x and y are inside; their numbers are of one byte, of two and of more.
func player(id, x, y int) api.Entity {
	return api.Entity{Id: id, Kind: api.Player, X: x, Y: y, Vx: 32, Vy: -64, Health: 60, Age: 3}
}

func shot(id, x, y int) api.Entity {
	return api.Entity{Id: id, Kind: api.Shot, X: x, Y: y, Vx: -160, Vy: 160, Health: 1, Age: 5, Owner: 6}
}

func gem(id, x, y int) api.Entity {
	return api.Entity{Id: id, Kind: api.Gem, X: x, Y: y, Health: 1}
}

func hand(from, to, frame int, e api.Entity) api.Cross {
	return api.Cross{Kind: api.Handoff, From: from, To: to, Frame: frame, Entity: e}
}

func blast(from, to, frame, x, y int) api.Cross {
	return api.Cross{Kind: api.Blast, From: from, To: to, Frame: frame, X: x, Y: y}
}

// extremes is numbers that are no small ones, also those that are small in fewer bits.
func extremes() []int {
	return []int{-1 << 62, -1 << 32, -1 << 31, -257, -1, 257, 1 << 31, 1 << 32, 1<<32 + 1, 1<<62 - 1}
}

// otherKinds is such as no entity and no message has.
func otherKinds() []int { return append(extremes(), 0, 4, 5, 258, 259, 1<<32+2, 1<<32+3) }

// number is the bytes of v, counted here by themselves.
func number(v int) []byte {
	u := 2 * v
	if v < 0 {
		u = -2*v - 1
	}
	var b []byte
	for u > 127 {
		b = append(b, byte(128+u%128))
		u /= 128
	}
	return append(b, byte(u))
}

// numbers is the bytes of all of l.
func numbers(l ...int) []byte {
	var b []byte
	for _, v := range l {
		b = append(b, number(v)...)
	}
	return b
}

// ofEntity is the numbers of e.
func ofEntity(e api.Entity) []int {
	return []int{e.Id, e.Kind, e.X, e.Y, e.Vx, e.Vy, e.Health, e.Age, e.Owner}
}

// ofMessage is the numbers of c; of one that is no Handoff as of a Blast.
func ofMessage(c api.Cross) []int {
	if c.Kind == api.Handoff {
		return append([]int{c.Kind, c.From, c.To, c.Frame}, ofEntity(c.Entity)...)
	}
	return []int{c.Kind, c.From, c.To, c.Frame, c.X, c.Y}
}

// ofMessages is how many messages there are, and the numbers of each.
func ofMessages(l ...api.Cross) []int {
	all := []int{len(l)}
	for _, c := range l {
		all = append(all, ofMessage(c)...)
	}
	return all
}

// ofBase is the numbers of b.
func ofBase(b api.Base) []int {
	all := []int{b.State.Frame, len(b.State.Entities)}
	for _, e := range b.State.Entities {
		all = append(all, ofEntity(e)...)
	}
	return append(all, ofMessages(b.Inbox...)...)
}

// longer is the bytes of the number b in one byte more than it needs.
func longer(b []byte) []byte {
	b = append(slices.Clone(b), 0)
	b[len(b)-2] += 128
	return b
}

// sameBase: are all fields, and the elements of all lists, the same?
func sameBase(a, b api.Base) bool {
	return a.State.Frame == b.State.Frame && slices.Equal(a.State.Entities, b.State.Entities) && slices.Equal(a.Inbox, b.Inbox)
}

// roomy is a copy of l with room behind its end, and all of that memory.
func roomy[T any](l []T, filler T) (part, whole []T) {
	whole = append(slices.Clone(l), filler, filler, filler)
	return whole[:len(l)], whole
}

// overwrite writes into all memory of l, also into the room behind its end.
func overwrite[T any](l []T, filler T) {
	l = l[:cap(l)]
	for i := range l {
		l[i] = filler
	}
}

// deeds is what all players do in a frame, by chance: they turn now and then, and shoot often.
func deeds(c api.Config, frame int) []api.Input {
	l := make([]api.Input, c.Players)
	for p := range l {
		l[p] = api.Input{Dx: chance.Below(5, c.Seed, frame/9, p, 1) - 2, Dy: chance.Below(5, c.Seed, frame/9, p, 2) - 2, Fire: chance.Below(3, c.Seed, frame, p) > 0}
	}
	return l
}

// baseOf is where the region r of w begins.
func baseOf(g grid.Grid, w api.World, r int) api.Base {
	return api.Base{State: w.Regions[r], Inbox: arena.Inbox(g, w.Outs, r)}
}

// weaken leaves all players of w so little health that one hit fells them, and then those that are near.
func weaken(w api.World) {
	for _, s := range w.Regions {
		for i, e := range s.Entities {
			if e.Kind == api.Player {
				s.Entities[i].Health = api.BlastHurt
			}
		}
	}
}

// eachBase asks for the bases of all regions of some worlds, frame by frame; some of them have an Inbox, with Handoffs and Blasts.
func eachBase(t *testing.T, ask func(g grid.Grid, r int, b api.Base)) {
	t.Helper()
	for _, size := range [][2]int{{1, 1}, {2, 1}, {2, 2}, {4, 4}} {
		c := config(size[0], size[1])
		g := gridOf(t, size[0], size[1])
		w, e := arena.Begin(c)
		for f := range 600 {
			for r := range g.Regions() {
				ask(g, r, baseOf(g, w, r))
			}
			weaken(w)
			if w, e = arena.Step(c, w, deeds(c, f)); e != api.OK {
				t.Fatalf("Step at the frame %d: error %d", f, e)
			}
		}
	}
}
