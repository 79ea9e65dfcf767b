package moving

import (
	"math"
	"slices"
	"testing"

	"joust/api"
	"joust/entity"
	"joust/grid"
)

// arena is a grid of so many columns and rows, and of three players.
func arena(t *testing.T, cols, rows int) grid.Grid {
	t.Helper()
	g, e := grid.New(api.Config{Cols: cols, Rows: rows, Players: 3, Window: 4, Seed: 9})
	if e != api.OK {
		t.Fatalf("New of %d columns, %d rows: error %d", cols, rows, e)
	}
	return g
}

// eachArena goes through arenas of all columns and rows.
func eachArena(t *testing.T, check func(g grid.Grid, width, height int)) {
	t.Helper()
	for cols := 1; cols <= 4; cols++ {
		for rows := 1; rows <= 4; rows++ {
			check(arena(t, cols, rows), 1024*cols, 1024*rows)
		}
	}
}

// player, shot and gem are right ones, wherever x and y are inside; vx and vy are such as they may have.
func player(x, y, vx, vy int) api.Entity {
	return api.Entity{Id: 2, Kind: api.Player, X: x, Y: y, Vx: vx, Vy: vy, Health: 60, Age: 3}
}

func shot(x, y, vx, vy, age int) api.Entity {
	return api.Entity{Id: 1234, Kind: api.Shot, X: x, Y: y, Vx: vx, Vy: vy, Health: 1, Age: age, Owner: 3}
}

func gem(x, y int) api.Entity {
	return api.Entity{Id: 1000, Kind: api.Gem, X: x, Y: y, Health: 1}
}

// otherKinds is such as there are not, also those that are one again in fewer bits.
func otherKinds() []int {
	return []int{0, 4, 5, -1, -2, -3, 257, 258, 259, 1<<32 + 1, 1<<32 + 2, 1<<32 + 3, math.MaxInt, math.MinInt, math.MinInt + 1}
}

// oddPlayers is players of whom most may not be in an arena: Steer and Shoot do not ask that.
func oddPlayers() []api.Entity {
	return []api.Entity{
		player(5, 6, 9, -9),
		{Kind: api.Player},
		{Id: 2, Kind: api.Player, X: -5, Y: 70000, Vx: 999, Vy: -999, Health: -3, Owner: 4},
		{Id: math.MaxInt, Kind: api.Player, X: math.MaxInt, Y: math.MaxInt, Vx: math.MaxInt, Vy: math.MaxInt, Health: math.MaxInt, Owner: math.MaxInt},
		{Id: math.MinInt, Kind: api.Player, X: math.MinInt, Y: math.MinInt, Vx: math.MinInt, Vy: math.MinInt, Health: math.MinInt, Owner: math.MinInt},
	}
}

// checkSteer asks for Steer, twice: what came in stays, so that the second time it is the same.
func checkSteer(t *testing.T, e api.Entity, i api.Input, want api.Entity, fires bool) {
	t.Helper()
	was := e
	for range 2 {
		if got, is := Steer(e, i); got != want || is != fires {
			t.Errorf("P7.1: Steer(%+v, %+v): %+v, %v; want %+v, %v", e, i, got, is, want, fires)
		}
	}
	if e != was {
		t.Errorf("R3: Steer made %+v of %+v", e, was)
	}
}

func TestSteer(t *testing.T) {
	speeds := map[int]int{-2: -64, -1: -32, 0: 0, 1: 32, 2: 64}
	ages := []struct{ age, next int }{
		{1, 0}, {2, 1}, {3, 2}, {5, 4}, {6, 5}, {7, 6}, {100, 99}, {1 << 31, 1<<31 - 1}, {1 << 32, 1<<32 - 1}, {math.MaxInt, math.MaxInt - 1},
		{-1, 0}, {-6, 0}, {-1 << 31, 0}, {-1 << 32, 0}, {math.MinInt + 1, 0}, {math.MinInt, 0},
	}
	for _, e := range oddPlayers() {
		for dx, vx := range speeds {
			for dy, vy := range speeds {
				want := e
				want.Vx, want.Vy = vx, vy
				for _, r := range ages {
					e.Age, want.Age = r.age, r.next
					checkSteer(t, e, api.Input{Dx: dx, Dy: dy}, want, false)
					checkSteer(t, e, api.Input{Dx: dx, Dy: dy, Fire: true}, want, false)
				}
				e.Age, want.Age = 0, 0
				checkSteer(t, e, api.Input{Dx: dx, Dy: dy}, want, false)
				want.Age = 6
				checkSteer(t, e, api.Input{Dx: dx, Dy: dy, Fire: true}, want, true)
			}
		}
	}
}

// TestSteerOn: who always fires shoots in one of seven frames.
func TestSteerOn(t *testing.T) {
	e := player(5, 6, 0, 0)
	e.Age = 0
	for frame := range 30 {
		var fires bool
		if e, fires = Steer(e, api.Input{Dx: 1, Fire: true}); fires != (frame%7 == 0) || e.Age != 6-frame%7 {
			t.Errorf("P7.1: Steer, the frame %d of one who always fires: %+v, %v", frame, e, fires)
		}
	}
}

// TestSteerNoInput: by an input that is not right nothing happens, not even by its other step, or to Age.
func TestSteerNoInput(t *testing.T) {
	for _, e := range oddPlayers() {
		for _, age := range []int{0, 1, 6, 7, -1, math.MaxInt, math.MinInt} {
			e.Age = age
			for _, far := range []int{3, -3, 4, -4, 256, 1<<8 + 1, 1<<32 + 2, 1<<63 - 1, -1 << 32, math.MinInt, math.MinInt + 1} {
				for _, near := range []int{-2, 0, 1, 2, far} {
					for _, fire := range []bool{false, true} {
						checkSteer(t, e, api.Input{Dx: far, Dy: near, Fire: fire}, e, false)
						checkSteer(t, e, api.Input{Dx: near, Dy: far, Fire: fire}, e, false)
					}
				}
			}
		}
	}
}

// TestSteerOthers: only players steer.
func TestSteerOthers(t *testing.T) {
	for _, e := range append(oddPlayers(), shot(5, 6, 160, 0, 0), shot(5, 6, -160, 160, 12), gem(5, 6), api.Entity{}) {
		for _, kind := range append(otherKinds(), api.Shot, api.Gem) {
			e.Kind = kind
			for _, age := range []int{0, 1, 6, math.MinInt} {
				e.Age = age
				for _, i := range []api.Input{{}, {Dx: 1, Dy: -2}, {Dx: 2, Fire: true}, {Fire: true}, {Dx: 3, Fire: true}} {
					checkSteer(t, e, i, e, false)
				}
			}
		}
	}
}

func TestShoot(t *testing.T) {
	signs := []struct {
		v    int
		list []int
	}{
		{-160, []int{-1, -2, -3, -160, -1 << 31, -1 << 32, math.MinInt + 1, math.MinInt}},
		{0, []int{0}},
		{160, []int{1, 2, 3, 160, 1 << 31, 1 << 32, math.MaxInt - 1, math.MaxInt}},
	}
	for _, x := range signs {
		for _, y := range signs {
			vx, vy := x.v, y.v
			if vx == 0 && vy == 0 {
				vx = 160
			}
			for _, dx := range x.list {
				for _, dy := range y.list {
					checkShoot(t, api.Input{Dx: dx, Dy: dy}, vx, vy)
					checkShoot(t, api.Input{Dx: dx, Dy: dy, Fire: true}, vx, vy)
				}
			}
		}
	}
}

// checkShoot asks for Shoot with i: of whoever shoots but the place and the number count.
func checkShoot(t *testing.T, i api.Input, vx, vy int) {
	t.Helper()
	for _, e := range append(oddPlayers(), shot(5, 6, -160, 160, 7), gem(8, 9), api.Entity{}, api.Entity{Id: 7, Kind: 9, X: 1, Y: 2}) {
		was := e
		for _, id := range []int{1000, 1234, 1<<31 - 1, 0, 1, -1, 1 << 40, math.MaxInt, math.MinInt} {
			want := api.Entity{Id: id, Kind: api.Shot, X: e.X, Y: e.Y, Vx: vx, Vy: vy, Health: 1, Age: 0, Owner: e.Id}
			if got := Shoot(e, i, id); got != want {
				t.Errorf("P7.1: Shoot(%+v, %+v, %d): %+v; want %+v", e, i, id, got, want)
			}
		}
		if e != was {
			t.Errorf("R3: Shoot made %+v of %+v", e, was)
		}
	}
}

// TestShootRight: what a right player shoots is right, wherever it stands.
func TestShootRight(t *testing.T) {
	eachArena(t, func(g grid.Grid, width, height int) {
		for dx := -2; dx <= 2; dx++ {
			for dy := -2; dy <= 2; dy++ {
				for _, x := range []int{0, 512, width - 1} {
					for _, y := range []int{0, 512, height - 1} {
						if s := Shoot(player(x, y, 0, 0), api.Input{Dx: dx, Dy: dy}, 1000); !entity.Right(g, s) {
							t.Errorf("P7.1: Shoot at %d, %d with %d, %d: %+v is not right", x, y, dx, dy, s)
						}
					}
				}
			}
		}
	})
}

// checkGo asks for Go, twice: what came in stays, so that the second time it is the same.
func checkGo(t *testing.T, g grid.Grid, e, want api.Entity, is bool) {
	t.Helper()
	was, gWas := e, g
	for range 2 {
		if got, there := Go(g, e); got != want || there != is {
			t.Errorf("P7.2: Go of %+v, %d columns, %d rows: %+v, %v; want %+v, %v", e, g.Cols, g.Rows, got, there, want, is)
		}
	}
	if e != was || g != gWas {
		t.Errorf("R3: Go made %+v of %+v, or %+v of %+v", e, was, g, gWas)
	}
}

// checkGone asks that e is told to be no more.
func checkGone(t *testing.T, g grid.Grid, e api.Entity) {
	t.Helper()
	checkGo(t, g, e, api.Entity{}, false)
}

// places is those from 0 on below wide at which a step of at most far may do something else than beside them: at the walls, at the seams of regions, and in the midst.
func places(wide, far int) []int {
	var l []int
	for seam := 0; seam <= wide; seam += 1024 {
		for _, off := range []int{0, 1, 2, far - 1, far, far + 1, 512} {
			l = append(l, seam+off, seam-off, seam-1-off)
		}
	}
	l = slices.DeleteFunc(l, func(v int) bool { return v < 0 || v >= wide })
	slices.Sort(l)
	return slices.Compact(l)
}

// walled is v, but at a wall of an arena that is wide, if v is beyond it.
func walled(v, wide int) int {
	switch {
	case v < 0:
		return 0
	case v >= wide:
		return wide - 1
	}
	return v
}

// TestGoPlayer: with all speeds along x, then along y, from places at the walls and in the midst.
func TestGoPlayer(t *testing.T) {
	eachArena(t, func(g grid.Grid, width, height int) {
		for v := -64; v <= 64; v++ {
			for _, x := range places(width, 64) {
				checkGo(t, g, player(x, 500, v, 7), player(walled(x+v, width), 507, v, 7), true)
			}
			for _, y := range places(height, 64) {
				checkGo(t, g, player(500, y, -7, v), player(493, walled(y+v, height), -7, v), true)
			}
		}
	})
}

// TestGoPlayerCorners: both ways at once, into the corners and away from them.
func TestGoPlayerCorners(t *testing.T) {
	g := arena(t, 3, 2)
	for _, r := range []struct{ x, y, vx, vy, toX, toY int }{
		{0, 0, -64, -64, 0, 0}, {0, 0, 64, 64, 64, 64}, {64, 64, -64, -64, 0, 0}, {63, 63, -64, -64, 0, 0}, {65, 65, -64, -64, 1, 1},
		{3071, 2047, 64, 64, 3071, 2047}, {3071, 2047, -64, -64, 3007, 1983}, {3007, 1983, 64, 64, 3071, 2047}, {3008, 1984, 64, 64, 3071, 2047}, {3006, 1982, 64, 64, 3070, 2046},
		{0, 2047, -1, 1, 0, 2047}, {3071, 0, 1, -1, 3071, 0}, {3070, 1, 1, -1, 3071, 0}, {0, 0, 0, 0, 0, 0}, {3071, 2047, 0, 0, 3071, 2047},
		{2040, 1020, 64, 64, 2104, 1084}, {1023, 1023, 1, 1, 1024, 1024}, {1024, 1024, -1, -1, 1023, 1023},
	} {
		checkGo(t, g, player(r.x, r.y, r.vx, r.vy), player(r.toX, r.toY, r.vx, r.vy), true)
	}
}

// TestGoPlayerKeeps: each Age, Health and number of a player stays.
func TestGoPlayerKeeps(t *testing.T) {
	g := arena(t, 1, 1)
	for id := 1; id <= 3; id++ {
		for age := 0; age <= 6; age++ {
			for _, health := range []int{1, 50, 100} {
				e := api.Entity{Id: id, Kind: api.Player, X: 10, Y: 20, Vx: -32, Vy: 64, Health: health, Age: age}
				want := e
				want.X, want.Y = 0, 84
				checkGo(t, g, e, want, true)
			}
		}
	}
}

// TestGoShot: with each flight, from places at the walls and in the midst, at each Age.
func TestGoShot(t *testing.T) {
	eachArena(t, func(g grid.Grid, width, height int) {
		for _, vx := range []int{-160, 0, 160} {
			for _, vy := range []int{-160, 0, 160} {
				if vx == 0 && vy == 0 {
					continue
				}
				for age := 0; age <= 12; age++ {
					for _, x := range places(width, 160) {
						checkShot(t, g, shot(x, 500, vx, vy, age), width, height)
					}
					for _, y := range places(height, 160) {
						checkShot(t, g, shot(500, y, vx, vy, age), width, height)
					}
				}
			}
		}
	})
}

// checkShot asks for Go of the right shot e.
func checkShot(t *testing.T, g grid.Grid, e api.Entity, width, height int) {
	t.Helper()
	to := shot(e.X+e.Vx, e.Y+e.Vy, e.Vx, e.Vy, e.Age+1)
	if to.Age > 12 || to.X < 0 || to.X > width-1 || to.Y < 0 || to.Y > height-1 {
		checkGone(t, g, e)
		return
	}
	checkGo(t, g, e, to, true)
}

// TestGoShotEdges: at each wall, one step ahead of it, and at the last ages.
func TestGoShotEdges(t *testing.T) {
	g := arena(t, 2, 1)
	for _, r := range []struct {
		e, want api.Entity
	}{
		{shot(160, 10, -160, 0, 3), shot(0, 10, -160, 0, 4)}, {shot(1887, 10, 160, 0, 3), shot(2047, 10, 160, 0, 4)},
		{shot(10, 160, 0, -160, 3), shot(10, 0, 0, -160, 4)}, {shot(10, 863, 0, 160, 3), shot(10, 1023, 0, 160, 4)},
		{shot(160, 863, -160, 160, 0), shot(0, 1023, -160, 160, 1)}, {shot(0, 0, 160, 160, 0), shot(160, 160, 160, 160, 1)},
		{shot(500, 500, 160, -160, 11), shot(660, 340, 160, -160, 12)}, {shot(1000, 500, 160, 0, 10), shot(1160, 500, 160, 0, 11)},
		{shot(0, 10, 0, 160, 0), shot(0, 170, 0, 160, 1)}, {shot(2047, 1023, -160, -160, 0), shot(1887, 863, -160, -160, 1)},
	} {
		checkGo(t, g, r.e, r.want, true)
	}
	for _, e := range []api.Entity{
		shot(159, 10, -160, 0, 3), shot(0, 10, -160, 0, 3), shot(1888, 10, 160, 0, 3), shot(2047, 10, 160, 0, 3),
		shot(10, 159, 0, -160, 3), shot(10, 0, 0, -160, 3), shot(10, 864, 0, 160, 3), shot(10, 1023, 0, 160, 3),
		shot(159, 500, -160, 160, 0), shot(500, 159, 160, -160, 0), shot(500, 500, 160, -160, 12), shot(1000, 500, -160, 0, 12), shot(0, 0, -160, -160, 12),
	} {
		checkGone(t, g, e)
	}
}

// TestGoShotOn: a shot that nothing stops is there twelve frames long.
func TestGoShotOn(t *testing.T) {
	g := arena(t, 4, 1)
	e := Shoot(player(100, 500, 0, 0), api.Input{Dx: 1}, 1000)
	for frame := 1; frame <= 13; frame++ {
		var is bool
		if e, is = Go(g, e); is != (frame <= 12) || is && (e.X != 100+160*frame || e.Age != frame) {
			t.Errorf("P7.2: Go, the frame %d of a shot: %+v, %v", frame, e, is)
		}
	}
}

func TestGoGem(t *testing.T) {
	eachArena(t, func(g grid.Grid, width, height int) {
		for _, x := range places(width, 32) {
			for _, y := range places(height, 32) {
				checkGo(t, g, gem(x, y), gem(x, y), true)
			}
		}
		last := gem(5, 5)
		last.Id = 1<<31 - 1
		checkGo(t, g, last, last, true)
	})
}

// fields is where the fields of an entity are, but Kind.
func fields(e *api.Entity) []*int {
	return []*int{&e.Id, &e.X, &e.Y, &e.Vx, &e.Vy, &e.Health, &e.Age, &e.Owner}
}

// TestGoWrong: one field of a right entity is turned at a time, by little and to the ends of int; who is not right is gone.
func TestGoWrong(t *testing.T) {
	g := arena(t, 3, 2)
	for _, e := range []api.Entity{player(500, 500, 32, -64), shot(500, 500, 160, -160, 5), gem(500, 500)} {
		for i := range fields(&e) {
			for _, v := range []int{-1, -65, 65, 13, 101, 3072, 1 << 31, 1 << 32, 1<<32 + 160, -1 << 32, 1 << 62, math.MaxInt, math.MaxInt - 1, math.MinInt, math.MinInt + 1} {
				turned := e
				*fields(&turned)[i] = v
				if !entity.Right(g, turned) {
					checkGone(t, g, turned)
				}
			}
		}
	}
	for _, e := range wrong() {
		checkGone(t, g, e)
	}
}

// wrong is entities that are not right in an arena of 3 columns, 2 rows and 3 players.
func wrong() []api.Entity {
	turn := func(e api.Entity, change func(e *api.Entity)) api.Entity {
		change(&e)
		return e
	}
	return []api.Entity{
		{}, {X: 5, Y: 5}, {Kind: api.Player}, {Kind: api.Shot}, {Kind: api.Gem},
		player(-1, 0, 64, 0), player(0, -1, 0, 64), player(3072, 0, -64, 0), player(0, 2048, 0, -64), player(5, 5, 65, 0), player(5, 5, 0, -65), player(5, 5, math.MaxInt, math.MinInt), player(math.MaxInt, math.MinInt, 0, 0),
		turn(player(5, 5, 0, 0), func(e *api.Entity) { e.Id = 0 }), turn(player(5, 5, 0, 0), func(e *api.Entity) { e.Id = 4 }),
		turn(player(5, 5, 0, 0), func(e *api.Entity) { e.Health = 0 }), turn(player(5, 5, 0, 0), func(e *api.Entity) { e.Health = 101 }),
		turn(player(5, 5, 0, 0), func(e *api.Entity) { e.Age = -1 }), turn(player(5, 5, 0, 0), func(e *api.Entity) { e.Age = 7 }), turn(player(5, 5, 0, 0), func(e *api.Entity) { e.Owner = 1 }),
		shot(-160, 5, 160, 0, 0), shot(3072, 5, -160, 0, 0), shot(5, -1, 0, 160, 0), shot(5, 2048, 0, -160, 0), shot(500, 500, 0, 0, 0), shot(500, 500, 159, 0, 0), shot(500, 500, 160, 32, 0), shot(500, 500, 320, 0, 0),
		shot(500, 500, 160, 0, -1), shot(500, 500, 160, 0, 13), shot(500, 500, 160, 0, math.MaxInt), shot(500, 500, 160, 0, math.MinInt), shot(500, 500, math.MinInt, math.MaxInt, 0),
		turn(shot(500, 500, 160, 0, 0), func(e *api.Entity) { e.Id = 999 }), turn(shot(500, 500, 160, 0, 0), func(e *api.Entity) { e.Id = 1 << 31 }),
		turn(shot(500, 500, 160, 0, 0), func(e *api.Entity) { e.Owner = 0 }), turn(shot(500, 500, 160, 0, 0), func(e *api.Entity) { e.Owner = 4 }),
		turn(shot(500, 500, 160, 0, 0), func(e *api.Entity) { e.Health = 0 }), turn(shot(500, 500, 160, 0, 0), func(e *api.Entity) { e.Health = 2 }),
		gem(-1, 5), gem(5, 2048), gem(math.MinInt, math.MaxInt), turn(gem(5, 5), func(e *api.Entity) { e.Id = 5 }), turn(gem(5, 5), func(e *api.Entity) { e.Id = 1 << 31 }), turn(gem(5, 5), func(e *api.Entity) { e.Vx = 1 }),
		turn(gem(5, 5), func(e *api.Entity) { e.Vy = -160 }), turn(gem(5, 5), func(e *api.Entity) { e.Health = 2 }), turn(gem(5, 5), func(e *api.Entity) { e.Age = 1 }), turn(gem(5, 5), func(e *api.Entity) { e.Owner = 1 }),
	}
}

func TestGoOtherKinds(t *testing.T) {
	g := arena(t, 3, 2)
	for _, e := range []api.Entity{player(500, 500, 32, -64), shot(500, 500, 160, -160, 5), gem(500, 500)} {
		own := e.Kind
		for _, kind := range append(otherKinds(), api.Player, api.Shot, api.Gem) {
			// Who has the fields of one kind is not right as another one.
			if e.Kind = kind; kind != own {
				checkGone(t, g, e)
			}
		}
	}
}

// TestGoNoGrid: nobody goes in an arena that there is not.
func TestGoNoGrid(t *testing.T) {
	for _, c := range []api.Config{{}, {Players: 3}, {Cols: 5, Rows: 1, Players: 3, Window: 4}, {Cols: 1, Rows: 0, Players: 3, Window: 4}, {Cols: 1, Rows: 1, Players: 7, Window: 4}, {Cols: 1, Rows: 1, Players: 3}, {Cols: math.MaxInt, Rows: math.MinInt, Players: math.MaxInt, Window: math.MaxInt}} {
		for _, e := range []api.Entity{player(500, 500, 32, -64), player(0, 0, 0, 0), shot(500, 500, 160, -160, 5), gem(500, 500), gem(0, 0), {}} {
			checkGone(t, grid.Grid{Config: c}, e)
		}
	}
}

// checkNear asks that who is right and goes is right, and in the region where it was or in one near to it.
func checkNear(t *testing.T, g grid.Grid, e api.Entity) {
	t.Helper()
	if !entity.Right(g, e) {
		t.Fatalf("%+v is not right, %d columns, %d rows", e, g.Cols, g.Rows)
	}
	to, is := Go(g, e)
	if !is && e.Kind != api.Shot {
		t.Errorf("P7.2: Go of %+v: gone", e)
	}
	if is && !entity.Right(g, to) {
		t.Errorf("P7.2: Go of %+v: %+v is not right", e, to)
	}
	if is && !slices.Contains(g.Near(g.Of(e.X, e.Y)), g.Of(to.X, to.Y)) {
		t.Errorf("what follows: Go of %+v from the region %d to %d, which is not near", e, g.Of(e.X, e.Y), g.Of(to.X, to.Y))
	}
}

// TestGoNear: from all places at the walls and at the seams of regions, with the greatest speeds.
func TestGoNear(t *testing.T) {
	for _, g := range []grid.Grid{arena(t, 1, 1), arena(t, 4, 4), arena(t, 4, 1), arena(t, 1, 4)} {
		for _, x := range places(g.Width(), 160) {
			for _, y := range places(g.Height(), 160) {
				checkNear(t, g, gem(x, y))
				for _, way := range [][2]int{{-1, -1}, {-1, 0}, {-1, 1}, {0, -1}, {0, 1}, {1, -1}, {1, 0}, {1, 1}} {
					checkNear(t, g, player(x, y, 64*way[0], 64*way[1]))
					checkNear(t, g, shot(x, y, 160*way[0], 160*way[1], 5))
				}
			}
		}
	}
}

// TestStep: a sum of none, one and several steps, held at the bounds of all numbers.
func TestStep(t *testing.T) {
	for _, r := range []struct {
		from  int
		steps []int
		want  int
	}{
		{5, nil, 5}, {5, []int{}, 5}, {5, []int{3}, 8}, {5, []int{3, -9, 2}, 1}, {0, []int{math.MaxInt, 1}, 1<<31 - 1}, {1<<31 - 1, []int{1, -1}, 1<<31 - 2}, {-5, []int{math.MinInt, math.MinInt}, -(1<<31 - 1)},
	} {
		if got := step(r.from, r.steps...); got != r.want {
			t.Errorf("step(%d, %v): %d; want %d", r.from, r.steps, got, r.want)
		}
	}
}
