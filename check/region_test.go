package check

import (
	"math"
	"slices"
	"testing"

	"joust/api"
	"joust/arena"
	"joust/chance"
	"joust/grid"
	"joust/snapshot"
)

// config is that of an arena of six players.
func config(cols, rows int) api.Config {
	return api.Config{Cols: cols, Rows: rows, Players: 6, Window: 4, Seed: 77}
}

// gridOf is the grid of an arena of six players.
func gridOf(t *testing.T, cols, rows int) grid.Grid {
	t.Helper()
	g, e := grid.New(config(cols, rows))
	if e != api.OK {
		t.Fatalf("no arena of %d columns and %d rows: error %d", cols, rows, e)
	}
	return g
}

// player, shot and gem are right ones, wherever x and y are inside.
func player(id, x, y int) api.Entity {
	return api.Entity{Id: id, Kind: api.Player, X: x, Y: y, Vx: 32, Vy: -64, Health: 60, Age: 3}
}

func shot(id, x, y int) api.Entity {
	return api.Entity{Id: id, Kind: api.Shot, X: x, Y: y, Vx: -160, Vy: 160, Health: 1, Age: 5, Owner: 6}
}

func gem(id, x, y int) api.Entity {
	return api.Entity{Id: id, Kind: api.Gem, X: x, Y: y, Health: 1}
}

// full is a state of the region 1 of an arena of 2 columns and 2 rows, with each kind of entity.
func full() api.Region {
	return api.Region{Frame: 7, Entities: []api.Entity{player(1, 1024, 0), player(6, 2047, 1023), shot(1000, 1500, 64), gem(1<<31-1, 1100, 9)}}
}

// crowd is a state of that region with n things.
func crowd(n int) api.Region {
	s := api.Region{Frame: 7, Entities: []api.Entity{player(1, 1024, 0)}}
	for i := range n {
		s.Entities = append(s.Entities, gem(1000+i, 1024+i, i))
	}
	return s
}

// standing is a right state of the region 1, its bytes as the chapter 12 tells them, and their sum, counted outside this program.
type standing struct {
	name   string
	s      api.Region
	packed []byte
	sum    uint64
}

// states is some right states of the region 1.
func states() []standing {
	return []standing{
		{"nobody, at first", api.Region{}, []byte{0, 0, 0}, 0x7bd0afbcde0898fb},
		{"an empty list, at first", api.Region{Entities: []api.Entity{}}, []byte{0, 0, 0}, 0x7bd0afbcde0898fb},
		{"nobody, at the frame 1", api.Region{Frame: 1}, []byte{2, 0, 0}, 0x2129222e23cfd953},
		{"nobody, ahead of the last frame", api.Region{Frame: 9999}, []byte{158, 156, 1, 0, 0}, 0xd75004dc689cf930},
		{"nobody, at last", api.Region{Frame: 10000}, []byte{160, 156, 1, 0, 0}, 0x32444c07357e72e6},
		{"each kind", full(), []byte{
			14, 8,
			2, 2, 128, 16, 0, 64, 127, 120, 6, 0,
			12, 2, 254, 31, 254, 15, 64, 127, 120, 6, 0,
			208, 15, 4, 184, 23, 128, 1, 191, 2, 192, 2, 2, 10, 12,
			254, 255, 255, 255, 15, 6, 152, 17, 18, 0, 0, 2, 0, 0,
			0}, 0xf46d227c3bbac227},
	}
}

func TestRegion(t *testing.T) {
	g := gridOf(t, 2, 2)
	for _, r := range states() {
		for range 2 {
			if got := Region(g, 1, r.s); got != r.sum || got != Sum(r.packed) {
				t.Errorf("P13.1: Region of %s: %#x; want %#x", r.name, got, r.sum)
			}
		}
		if b, e := snapshot.Pack(g, 1, api.Base{State: r.s}); e != api.OK || !slices.Equal(b, r.packed) {
			t.Errorf("P13.1: of %s Pack tells %v, error %d", r.name, b, e)
		}
	}
}

// TestRegionGoesByTheState: no two of these states have the same sum, but an empty one has the same in each region.
func TestRegionGoesByTheState(t *testing.T) {
	g := gridOf(t, 2, 2)
	seen := map[uint64]int{}
	turned := func(change func(s *api.Region)) uint64 {
		s := full()
		change(&s)
		return Region(g, 1, s)
	}
	all := []uint64{
		0, Region(g, 1, full()), Region(g, 1, api.Region{}), Region(g, 1, api.Region{Frame: 7}), Region(g, 1, crowd(0)), Region(g, 1, crowd(1)), Region(g, 1, crowd(24)),
		turned(func(s *api.Region) { s.Frame = 8 }), turned(func(s *api.Region) { s.Entities = s.Entities[:3] }), turned(func(s *api.Region) { s.Entities = s.Entities[1:] }),
		turned(func(s *api.Region) { s.Entities[0].Id = 2 }), turned(func(s *api.Region) { s.Entities[0].X = 1025 }), turned(func(s *api.Region) { s.Entities[0].Y = 1 }),
		turned(func(s *api.Region) { s.Entities[0].Vx = -32 }), turned(func(s *api.Region) { s.Entities[0].Vy = 64 }), turned(func(s *api.Region) { s.Entities[0].Health = 61 }),
		turned(func(s *api.Region) { s.Entities[0].Age = 4 }), turned(func(s *api.Region) { s.Entities[2].Owner = 5 }), turned(func(s *api.Region) { s.Entities[3].Id = 1001 }),
	}
	for i, sum := range all {
		if other, is := seen[sum]; is {
			t.Errorf("P13.1: the states %d and %d have the same sum, %#x", other, i, sum)
		}
		seen[sum] = i
	}
	for r := range 4 {
		if got := Region(g, r, api.Region{Frame: 1}); got != 0x2129222e23cfd953 {
			t.Errorf("P13.1: Region of nobody, in the region %d: %#x", r, got)
		}
	}
}

// wrong is states that are not right as the region 1, by names.
func wrong() map[string]api.Region {
	turned := func(change func(l []api.Entity)) api.Region {
		s := full()
		change(s.Entities)
		return s
	}
	return map[string]api.Region{
		"the frame -1": {Frame: -1}, "a frame too many": {Frame: 10001}, "the least frame": {Frame: math.MinInt}, "the greatest frame": {Frame: math.MaxInt}, "the frame 2^32": {Frame: 1 << 32},
		"numbers that fall":               turned(func(l []api.Entity) { l[0], l[1] = l[1], l[0] }),
		"a number twice":                  turned(func(l []api.Entity) { l[1].Id = 1 }),
		"one elsewhere":                   turned(func(l []api.Entity) { l[0].X = 1023 }),
		"one below":                       turned(func(l []api.Entity) { l[3].Y = 1024 }),
		"one outside":                     turned(func(l []api.Entity) { l[2].Y = -1 }),
		"one without health":              turned(func(l []api.Entity) { l[1].Health = 0 }),
		"one of no Kind":                  turned(func(l []api.Entity) { l[1].Kind = 0 }),
		"one of another Kind":             turned(func(l []api.Entity) { l[3].Kind = 4 }),
		"nobody":                          turned(func(l []api.Entity) { l[0] = api.Entity{} }),
		"a player too many":               turned(func(l []api.Entity) { l[1].Id = 7 }),
		"a number too high":               turned(func(l []api.Entity) { l[3].Id = 1 << 31 }),
		"a thing too many":                crowd(25),
		"a frame too many, and each kind": {Frame: 10001, Entities: full().Entities},
	}
}

func TestRegionThatIsNotRight(t *testing.T) {
	g := gridOf(t, 2, 2)
	for name, s := range wrong() {
		if got := Region(g, 1, s); got != 0 {
			t.Errorf("P13.1: Region of %s: %#x; want 0", name, got)
		}
	}
	if Region(g, 1, crowd(24)) == 0 {
		t.Errorf("P13.1: Region of as many things as there may be: 0")
	}
}

func TestRegionThatIsAnother(t *testing.T) {
	g := gridOf(t, 2, 2)
	for _, r := range []int{0, 2, 3, -1, 4, 16, math.MinInt, math.MaxInt, 1<<32 + 1} {
		if got := Region(g, r, full()); got != 0 {
			t.Errorf("P13.1: Region of what stands in the region 1, as %d: %#x; want 0", r, got)
		}
	}
	for _, r := range []int{-1, 4, 16, math.MinInt, math.MaxInt, 1 << 32} {
		if got := Region(g, r, api.Region{}); got != 0 {
			t.Errorf("P13.1: Region of nobody, as %d: %#x; want 0", r, got)
		}
	}
}

func TestRegionInNoArena(t *testing.T) {
	for i, c := range []api.Config{{}, {Cols: 2, Rows: 2, Players: 0, Window: 4}, {Cols: 5, Rows: 2, Players: 6, Window: 4}, {Cols: 2, Rows: 2, Players: 6, Window: 17}, {Cols: 2, Rows: -1, Players: 6, Window: 4}, {Cols: math.MaxInt, Rows: math.MaxInt, Players: math.MaxInt, Window: math.MinInt}} {
		for _, r := range []int{0, 1, -1, math.MaxInt} {
			for _, s := range []api.Region{{}, {Frame: 10000}, full()} {
				if got := Region(grid.Grid{Config: c}, r, s); got != 0 {
					t.Errorf("P13.1: Region %d in the arena %d that there is not: %#x; want 0", r, i, got)
				}
			}
		}
	}
	// In an arena of one player there is nobody of the number 6; what else there is plays no part.
	few, _ := grid.New(api.Config{Cols: 2, Rows: 2, Players: 1, Window: 4, Seed: 77})
	other, _ := grid.New(api.Config{Cols: 2, Rows: 2, Players: 6, Window: 16, Seed: 5})
	if got := Region(few, 1, full()); got != 0 {
		t.Errorf("P13.1: Region with a player too many: %#x; want 0", got)
	}
	if got := Region(other, 1, full()); got != 0xf46d227c3bbac227 {
		t.Errorf("P13.1: Region of an arena with another Seed and Window: %#x", got)
	}
}

func TestRegionStays(t *testing.T) {
	g := gridOf(t, 2, 2)
	s := full()
	whole := append(s.Entities, shot(1, 2, 3), gem(4, 5, 6), player(7, 8, 9))
	s.Entities = whole[:4]
	was := slices.Clone(whole)
	for _, r := range []int{1, 0} {
		Region(g, r, s)
		if s.Frame != 7 || !slices.Equal(whole, was) {
			t.Errorf("R3: Region as %d made %v of %v", r, whole, was)
		}
	}
}

// deeds is what all players do in a frame, by chance: they turn now and then, and shoot often.
func deeds(c api.Config, frame int) []api.Input {
	l := make([]api.Input, c.Players)
	for p := range l {
		l[p] = api.Input{Dx: chance.Below(5, c.Seed, frame/9, p, 1) - 2, Dy: chance.Below(5, c.Seed, frame/9, p, 2) - 2, Fire: chance.Below(3, c.Seed, frame, p) > 0}
	}
	return l
}

// TestRegionsOfWorlds: also where something comes into a region, its sum is that of its state alone; and it is the same of a state that came as bytes.
func TestRegionsOfWorlds(t *testing.T) {
	for _, size := range [][2]int{{1, 1}, {2, 1}, {2, 2}, {4, 4}} {
		c, g := config(size[0], size[1]), gridOf(t, size[0], size[1])
		w, e := arena.Begin(c)
		for f := range 300 {
			for r, s := range w.Regions {
				b, no := snapshot.Pack(g, r, api.Base{State: s})
				base, not := snapshot.Take(g, r, b)
				if got := Region(g, r, s); no != api.OK || not != api.OK || got != Sum(b) || got != Region(g, r, base.State) {
					t.Fatalf("P13.1: the region %d at the frame %d: %#x; want %#x (errors %d, %d)", r, f, got, Sum(b), no, not)
				}
			}
			if w, e = arena.Step(c, w, deeds(c, f)); e != api.OK {
				t.Fatalf("Step at the frame %d: error %d", f, e)
			}
		}
	}
}
