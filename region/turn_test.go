package region

import (
	"slices"
	"testing"

	"joust/api"
	"joust/chance"
	"joust/grid"
)

// list is its entities.
func list(l ...api.Entity) []api.Entity { return l }

// flown is the shot that a player sends off at x and y, one frame later.
func flown(id, x, y, vx, vy, owner int) api.Entity {
	return api.Entity{Id: id, Kind: api.Shot, X: x + vx, Y: y + vy, Vx: vx, Vy: vy, Health: 1, Age: 1, Owner: owner}
}

// shooter is the player who just shot.
func shooter(id, x, y int) api.Entity {
	return with(player(id, x, y), func(e *api.Entity) { e.Age = 6 })
}

// first is the number of the first thing that a region makes in a frame.
func first(g grid.Grid, r, f int) int { return 1000 + (f*g.Cols*g.Rows+r)*8 }

// allFire is six inputs of those who shoot.
func allFire() []api.Input { return slices.Repeat([]api.Input{{Fire: true}}, 6) }

// TestNumbers: of each region and frame the new things have numbers of their own, in the order of the players who shoot.
func TestNumbers(t *testing.T) {
	eachRegion(t, func(g grid.Grid, r int) {
		x, y := g.Corner(r)
		x, y = x+100, y+100
		for _, from := range []int{0, 1, 7, 500, 9_900} {
			f := quiet(g, from, r)
			id := first(g, r, f)
			checkStep(t, call{g, r, at(f, player(4, x, y)), doing(4, api.Input{Fire: true}), nil}, at(f+1, shooter(4, x, y), flown(id, x, y, 160, 0, 4)), nil, api.OK)
			in := none()
			in[1].Fire, in[2].Fire, in[5].Fire = true, true, true
			s := at(f, player(1, x, y), player(2, x, y+100), player(4, x, y+200), player(6, x, y+300))
			checkStep(t, call{g, r, s, in, nil}, at(f+1, player(1, x, y), shooter(2, x, y+100), player(4, x, y+200), shooter(6, x, y+300), flown(id, x, y+100, 160, 0, 2), flown(id+1, x, y+300, 160, 0, 6)), nil, api.OK)
			// With a gem: it is the last one that is made.
			f = lucky(g, from, r)
			id = first(g, r, f)
			s.Frame = f
			checkStep(t, call{g, r, s, in, nil}, at(f+1, player(1, x, y), shooter(2, x, y+100), player(4, x, y+200), shooter(6, x, y+300), flown(id, x, y+100, 160, 0, 2), flown(id+1, x, y+300, 160, 0, 6), gemOf(g, r, f, 2)), nil, api.OK)
			checkStep(t, call{g, r, at(f), in, nil}, at(f+1, gemOf(g, r, f, 0)), nil, api.OK)
		}
	})
}

// TestNumbersAll: six who shoot and a gem in one frame.
func TestNumbersAll(t *testing.T) {
	g := arena(t, 2, 2)
	f := lucky(g, 300, 3)
	s, want := at(f), at(f+1)
	for id := 1; id <= 6; id++ {
		s.Entities = append(s.Entities, player(id, 1100, 1000+id*100))
		want.Entities = append(want.Entities, shooter(id, 1100, 1000+id*100))
	}
	for id := 1; id <= 6; id++ {
		want.Entities = append(want.Entities, flown(first(g, 3, f)+id-1, 1100, 1000+id*100, 160, 0, id))
	}
	s.Entities[0].Y, want.Entities[0].Y, want.Entities[6].Y = 2000, 2000, 2000
	want.Entities = append(want.Entities, gemOf(g, 3, f, 6))
	checkStep(t, call{g, 3, s, allFire(), nil}, want, nil, api.OK)
}

// TestNumbersTaken: a new thing whose number is there is not put, but counts: the next one has the next number.
func TestNumbersTaken(t *testing.T) {
	g := arena(t, 2, 1)
	f := quiet(g, 60, 0)
	id := first(g, 0, f)
	s := at(f, player(1, 100, 100), player(2, 100, 300), player(3, 100, 500), gem(id, 5, 5))
	want := at(f+1, shooter(1, 100, 100), shooter(2, 100, 300), shooter(3, 100, 500), gem(id, 5, 5), flown(id+1, 100, 300, 160, 0, 2), flown(id+2, 100, 500, 160, 0, 3))
	checkStep(t, call{g, 0, s, allFire(), nil}, want, nil, api.OK)
	// The same, where the one with that number comes in.
	s.Entities = s.Entities[:3]
	checkStep(t, call{g, 0, s, allFire(), []api.Cross{hand(1, 0, f-1, gem(id, 5, 5))}}, want, nil, api.OK)
	// The second and the third number are there.
	s.Entities = append(slices.Clone(s.Entities), shot(id+1, 5, 900, 6), gem(id+2, 5, 5))
	want = at(f+1, shooter(1, 100, 100), shooter(2, 100, 300), shooter(3, 100, 500), flown(id, 100, 100, 160, 0, 1), flown(id+1, 5, 900, 160, 0, 6), gem(id+2, 5, 5))
	checkStep(t, call{g, 0, s, allFire(), nil}, want, nil, api.OK)
	// The gem's number is there: none comes, also not with the next number.
	f = lucky(g, 60, 0)
	id = first(g, 0, f)
	checkStep(t, call{g, 0, at(f, gem(id, 5, 5)), none(), nil}, at(f+1, gem(id, 5, 5)), nil, api.OK)
	checkStep(t, call{g, 0, at(f, player(2, 100, 300), gem(id, 5, 5)), allFire(), nil}, at(f+1, shooter(2, 100, 300), gem(id, 5, 5), gemOf(g, 0, f, 1)), nil, api.OK)
	checkStep(t, call{g, 0, at(f, player(2, 100, 300), gem(id+1, 5, 5)), allFire(), nil}, at(f+1, shooter(2, 100, 300), flown(id, 100, 300, 160, 0, 2), gem(id+1, 5, 5)), nil, api.OK)
	// It was there when the shot was made; that it flies off later brings nothing back.
	out := with(shot(id, 1000, 900, 5), func(e *api.Entity) { e.Age = 12 })
	checkStep(t, call{g, 0, at(f, player(2, 100, 300), out), allFire(), nil}, at(f+1, shooter(2, 100, 300), gemOf(g, 0, f, 1)), nil, api.OK)
}

// TestRoomMade: at most eight things are made in a frame; six players and one gem never come so far, so it is asked of a turn itself.
func TestRoomMade(t *testing.T) {
	g := arena(t, 1, 1)
	f := lucky(g, 5, 0)
	for made := range 12 {
		one := func() *turn {
			return &turn{Grid: g, frame: f, made: made, list: list(player(1, 300, 300), player(2, 300, 600))}
		}
		u := one()
		if u.room() != (made < 8) {
			t.Errorf("P9.2: room for one more than %d: %v", made, u.room())
		}
		u.steer(allFire())
		want := min(max(made, 8), made+2)
		if u.made != want || len(u.list) != 2+want-made || (u.list[0].Age == 6) != (made < 8) || (u.list[1].Age == 6) != (made < 7) {
			t.Errorf("P9.2: two who shoot where %d things were made: %d then, %+v", made, u.made, u.list)
		}
		u = one()
		u.grow()
		if made < 8 && (u.made != made+1 || !slices.Equal(u.list, append(one().list, gemOf(g, 0, f, made)))) || made >= 8 && (u.made != made || len(u.list) != 2) {
			t.Errorf("P9.2: a gem where %d things were made: %d then, %+v", made, u.made, u.list)
		}
	}
}

// TestRoomThings: at most 24 things: who would shoot where they are there may shoot in the next frame.
func TestRoomThings(t *testing.T) {
	g := arena(t, 2, 1)
	f := quiet(g, 70, 0)
	id := first(g, 0, f)
	fast := api.Input{Dx: 1, Dy: -1, Fire: true}
	in := []api.Input{fast, fast, {Dx: 2}, fast, fast, fast}
	for n := 19; n <= 24; n++ {
		s := at(f, player(1, 500, 300), player(2, 500, 400), player(3, 500, 500), with(player(4, 500, 600), func(e *api.Entity) { e.Age = 3 }), player(5, 500, 700), player(6, 500, 800))
		want := at(f + 1)
		var shots []api.Entity
		for i, e := range s.Entities {
			e.X, e.Y, e.Vx, e.Vy = e.X+32, e.Y-32, 32, -32
			switch {
			case i == 2:
				e.X, e.Y, e.Vx, e.Vy = 564, 500, 64, 0
			case i == 3:
				e.Age = 2
			case n+len(shots) < 24:
				e.Age = 6
				shots = append(shots, flown(id+len(shots), 500, 300+100*i, 160, -160, i+1))
			}
			want.Entities = append(want.Entities, e)
		}
		things := someGems(n, 900_000, 5, 900)
		s.Entities = append(s.Entities, things...)
		want.Entities = slices.Concat(want.Entities, shots, things)
		checkStep(t, call{g, 0, s, in, nil}, want, nil, api.OK)
	}
	// What comes in counts, and what flies off in this frame still does.
	gone := with(shot(900_100, 5, 900, 6), func(e *api.Entity) { e.Age = 12 })
	s := at(f, append(append(list(player(1, 500, 100)), someGems(22, 900_000, 5, 900)...), gone)...)
	want := at(f+1, append(list(player(1, 500, 100)), someGems(23, 900_000, 5, 900)...)...)
	checkStep(t, call{g, 0, s, allFire(), []api.Cross{hand(1, 0, f-1, gem(900_022, 5, 900))}}, want, nil, api.OK)
	want = at(f+1, slices.Concat(list(shooter(1, 500, 100), flown(id, 500, 100, 160, 0, 1)), someGems(22, 900_000, 5, 900))...)
	checkStep(t, call{g, 0, s, allFire(), nil}, want, nil, api.OK)
}

// TestRoomTaken: where 24 things are there and one of them has the number, nothing is made either.
func TestRoomTaken(t *testing.T) {
	g := arena(t, 2, 1)
	f := quiet(g, 70, 0)
	id := first(g, 0, f)
	s := at(f, append(list(player(1, 500, 100), player(2, 500, 300)), someGems(24, id, 5, 900)...)...)
	checkStep(t, call{g, 0, s, allFire(), nil}, at(f+1, s.Entities...), nil, api.OK)
	// With 23 the first shot is made, though not put, and there is room for the next one still.
	s = at(f, slices.Concat(list(player(1, 500, 100), player(2, 500, 300), player(3, 500, 500), gem(id, 5, 900)), someGems(22, 900_000, 5, 900))...)
	want := at(f+1, slices.Concat(list(shooter(1, 500, 100), shooter(2, 500, 300), player(3, 500, 500), gem(id, 5, 900), flown(id+1, 500, 300, 160, 0, 2)), someGems(22, 900_000, 5, 900))...)
	checkStep(t, call{g, 0, s, allFire(), nil}, want, nil, api.OK)
}

// TestSteer: each player has the input at its number less 1, also who comes in with this frame; inputs of who is elsewhere do nothing.
func TestSteer(t *testing.T) {
	g := arena(t, 2, 2)
	f := quiet(g, 20, 0)
	in := []api.Input{{Dx: 2, Dy: -2}, {Dx: -1, Dy: 1, Fire: true}, {Dx: 1, Fire: true}, {Dy: 2}, {Dx: -2, Dy: -1, Fire: true}, {Fire: true}}
	ages := func(e api.Entity, vx, vy, age int) api.Entity {
		e.Vx, e.Vy, e.Age = vx, vy, age
		return e
	}
	s := at(f, ages(player(1, 300, 300), 5, 5, 1), ages(player(3, 300, 500), -64, 64, 1), player(5, 300, 700))
	box := []api.Cross{hand(1, 0, f-1, ages(player(4, 600, 300), -32, 7, 6)), hand(2, 0, f-1, ages(player(6, 600, 700), 1, 2, 0))}
	want := at(f+1, ages(player(1, 364, 236), 64, -64, 0), ages(player(3, 332, 500), 32, 0, 0), ages(player(4, 600, 364), 0, 64, 5), ages(player(5, 236, 668), -64, -32, 6), ages(player(6, 600, 700), 0, 0, 6),
		flown(first(g, 0, f), 300, 700, -160, -160, 5), flown(first(g, 0, f)+1, 600, 700, 160, 0, 6))
	checkStep(t, call{g, 0, s, in, box}, want, nil, api.OK)
	// Frames until one may shoot again.
	for age := range 7 {
		e := ages(player(2, 500, 500), 0, 0, age)
		want := ages(e, 0, 0, max(0, age-1))
		checkStep(t, call{g, 0, at(f, e), none(), nil}, at(f+1, want), nil, api.OK)
		l := list(want)
		if age == 0 {
			l = list(shooter(2, 500, 500), flown(first(g, 0, f), 500, 500, 160, 0, 2))
		}
		checkStep(t, call{g, 0, at(f, e), doing(2, api.Input{Fire: true}), nil}, at(f+1, l...), nil, api.OK)
	}
}

// TestGo: walls hold players; shots beyond them, or too old, are gone.
func TestGo(t *testing.T) {
	g := arena(t, 1, 1)
	f := quiet(g, 20, 0)
	for _, d := range [][2]int{{-1, 0}, {1, 0}, {0, -1}, {0, 1}, {-1, -1}, {1, 1}} {
		fly := func(x, y, age int) api.Entity {
			return with(shot(5000, x, y, 1), func(e *api.Entity) { e.Vx, e.Vy, e.Age = d[0]*160, d[1]*160, age })
		}
		edge := func(d, off int) int { return []int{160 - off, 500, 1023 - 160 + off}[d+1] }
		for off := -1; off <= 1; off++ {
			x, y := edge(d[0], off), edge(d[1], off)
			var left []api.Entity
			if off <= 0 {
				left = list(fly(x+160*d[0], y+160*d[1], 1))
			}
			checkStep(t, call{g, 0, at(f, fly(x, y, 0)), none(), nil}, at(f+1, left...), nil, api.OK)
		}
		checkStep(t, call{g, 0, at(f, fly(500, 500, 11)), none(), nil}, at(f+1, fly(500+160*d[0], 500+160*d[1], 12)), nil, api.OK)
		checkStep(t, call{g, 0, at(f, fly(500, 500, 12)), none(), nil}, at(f+1), nil, api.OK)
		// A shot that is made at the wall is gone in the same frame; its player has shot.
		wall := []int{0, 500, 1023}
		x, y := wall[d[0]+1], wall[d[1]+1]
		want := with(shooter(3, x, y), func(e *api.Entity) { e.Vx, e.Vy = 64*d[0], 64*d[1] })
		checkStep(t, call{g, 0, at(f, player(3, x, y)), doing(3, api.Input{Dx: 2 * d[0], Dy: 2 * d[1], Fire: true}), nil}, at(f+1, want), nil, api.OK)
	}
	checkStep(t, call{g, 0, at(f, player(1, 5, 1000)), doing(1, api.Input{Dx: -1, Dy: 1}), nil}, at(f+1, with(player(1, 0, 1023), func(e *api.Entity) { e.Vx, e.Vy = -32, 32 })), nil, api.OK)
}

// TestGoOwnVelocity: who does nothing stands still, however fast it was.
func TestGoOwnVelocity(t *testing.T) {
	g := arena(t, 2, 2)
	f := quiet(g, 20, 0)
	fast := with(player(1, 1000, 1000), func(e *api.Entity) { e.Vx, e.Vy = 64, 64 })
	checkStep(t, call{g, 0, at(f, fast), none(), nil}, at(f+1, player(1, 1000, 1000)), nil, api.OK)
}

// TestBorders: from the middle of nine regions over each border and each corner, players and shots.
func TestBorders(t *testing.T) {
	g := arena(t, 3, 3)
	f := quiet(g, 33, 4)
	for dy := -1; dy <= 1; dy++ {
		for dx := -1; dx <= 1; dx++ {
			to := 4 + 3*dy + dx
			at0 := func(d, off int) int { return []int{1024 + off, 1500, 2047 - off}[d+1] }
			for _, off := range []int{0, 31, 32, 63, 64, 159, 160} {
				x, y := at0(dx, off), at0(dy, off)
				p := with(player(2, x+64*dx, y+64*dy), func(e *api.Entity) { e.Vx, e.Vy = 64*dx, 64*dy })
				c := call{g, 4, at(f, player(2, x, y)), doing(2, api.Input{Dx: 2 * dx, Dy: 2 * dy}), nil}
				if off < 64 && to != 4 {
					checkStep(t, c, at(f+1), []api.Cross{hand(4, to, f, p)}, api.OK)
				} else {
					checkStep(t, c, at(f+1, p), nil, api.OK)
				}
				if to == 4 {
					continue
				}
				s := with(shot(5000, x, y, 3), func(e *api.Entity) { e.Vx, e.Vy, e.Age = 160*dx, 160*dy, 4 })
				gone := flown(5000, x, y, 160*dx, 160*dy, 3)
				gone.Age = 5
				c = call{g, 4, at(f, s), none(), nil}
				if off < 160 {
					checkStep(t, c, at(f+1), []api.Cross{hand(4, to, f, gone)}, api.OK)
				} else {
					checkStep(t, c, at(f+1, gone), nil, api.OK)
				}
			}
		}
	}
}

// TestBordersNew: a shot may be gone over the border in the frame in which it is made, and who comes in may go on in it.
func TestBordersNew(t *testing.T) {
	g := arena(t, 3, 1)
	f := quiet(g, 33, 1)
	id := first(g, 1, f)
	checkStep(t, call{g, 1, at(f, player(2, 1100, 500)), doing(2, api.Input{Dx: -1, Fire: true}), nil}, at(f+1, with(shooter(2, 1068, 500), func(e *api.Entity) { e.Vx = -32 })), []api.Cross{hand(1, 0, f, flown(id, 1100, 500, -160, 0, 2))}, api.OK)
	moved := with(player(2, 1010, 500), func(e *api.Entity) { e.Vx = -64 })
	checkStep(t, call{g, 1, at(f), doing(2, api.Input{Dx: -2}), []api.Cross{hand(0, 1, f-1, player(2, 1074, 500))}}, at(f+1), []api.Cross{hand(1, 0, f, moved)}, api.OK)
}

// TestEmitted: by region, Handoffs ahead of Blasts, by numbers and places.
func TestEmitted(t *testing.T) {
	g := arena(t, 3, 1)
	f := quiet(g, 33, 1)
	fly := func(id, x, vx, owner int) api.Entity {
		return with(shot(id, x, 900, owner), func(e *api.Entity) { e.Vx = vx })
	}
	weak := func(id, x, y int) api.Entity { return hurt(player(id, x, y), 10) }
	s := at(f, player(1, 2040, 100), weak(2, 1900, 600), player(3, 1030, 100), weak(4, 1500, 600), weak(5, 1500, 500), player(6, 2040, 200), fly(5000, 2000, 160, 1), fly(5001, 1100, -160, 2), fly(5002, 1101, -160, 3), fly(5003, 2001, 160, 4))
	in := []api.Input{{Dx: 1}, {}, {Dx: -1}, {}, {}, {Dx: 2}}
	box := []api.Cross{blast(1, 1, f-1, 1800, 600), blast(2, 1, f-1, 1500, 550)}
	moved := func(id, x, y, vx int) api.Entity {
		return with(player(id, x+vx, y), func(e *api.Entity) { e.Vx = vx })
	}
	var out []api.Cross
	blasts := func(to int) []api.Cross {
		return []api.Cross{blast(1, to, f, 1500, 500), blast(1, to, f, 1500, 600), blast(1, to, f, 1900, 600)}
	}
	out = append(out, hand(1, 0, f, moved(3, 1030, 100, -32)), hand(1, 0, f, flown(5001, 1100, 900, -160, 0, 2)), hand(1, 0, f, flown(5002, 1101, 900, -160, 0, 3)))
	out = append(append(out, blasts(0)...), blasts(1)...)
	out = append(out, hand(1, 2, f, moved(1, 2040, 100, 32)), hand(1, 2, f, moved(6, 2040, 200, 64)), hand(1, 2, f, flown(5000, 2000, 900, 160, 0, 1)), hand(1, 2, f, flown(5003, 2001, 900, 160, 0, 4)))
	out = append(out, blasts(2)...)
	checkStep(t, call{g, 1, s, in, box}, at(f+1, raised(g, 1, f, 2), raised(g, 1, f, 4), raised(g, 1, f, 5)), out, api.OK)
}

// raised is the player who fell in a frame, as it stands then.
func raised(g grid.Grid, r, f, id int) api.Entity {
	return player(id, r%g.Cols*1024+chance.Below(1024, g.Seed, 1, f, id), r/g.Cols*1024+chance.Below(1024, g.Seed, 2, f, id))
}

// TestHits: shots, then gems, then blasts, where all stand behind their steps.
func TestHits(t *testing.T) {
	g := arena(t, 2, 1)
	f := quiet(g, 90, 0)
	p := func(health int) api.Entity { return hurt(player(1, 500, 500), health) }
	in := func(s ...api.Cross) []api.Cross { return s }
	hit, pick, blow := shot(5000, 340, 500, 2), gem(4000, 500, 500), blast(1, 0, f-1, 500, 500)
	for _, r := range []struct {
		l     []api.Entity
		inbox []api.Cross
		want  []api.Entity
	}{
		{list(p(90), hit), nil, list(p(70))},
		{list(p(90), pick), nil, list(p(100))},
		{list(p(90)), in(blow), list(p(80))},
		// Ahead of its shot the gem would have been lost on who has 100.
		{list(p(90), pick, hit), nil, list(p(95))},
		{list(p(90), pick), in(blow), list(p(90))},
		{list(p(90), hit), in(blow), list(p(60))},
		{list(p(90), pick, hit), in(blow), list(p(85))},
		{list(p(90), pick, hit), in(blow, blow, blow), list(p(65))},
		// Who has nothing left behind the shot, and something behind the gem, does not fall.
		{list(p(20), pick, hit), nil, list(p(25))},
		{list(p(5), pick, hit), nil, list(p(10))},
		{list(p(11)), in(blow), list(p(1))},
		// What comes in hits, is picked up, and is hit.
		{list(p(90)), in(hand(1, 0, f-1, hit)), list(p(70))},
		{list(p(50)), in(hand(1, 0, f-1, pick)), list(p(75))},
		{list(hit), in(hand(1, 0, f-1, p(90))), list(p(70))},
		{nil, in(blow, hand(1, 0, f-1, p(90))), list(p(80))},
		// One's own shot does not hit.
		{list(p(90), shot(5000, 340, 500, 1)), nil, list(p(90), flown(5000, 340, 500, 160, 0, 1))},
	} {
		checkStep(t, call{g, 0, at(f, r.l...), none(), r.inbox}, at(f+1, r.want...), nil, api.OK)
	}
}

// TestHitsBehindSteps: it counts where all are when they have gone.
func TestHitsBehindSteps(t *testing.T) {
	g := arena(t, 2, 1)
	f := quiet(g, 90, 0)
	walked := func(health int) api.Entity {
		return with(hurt(player(1, 564, 500), health), func(e *api.Entity) { e.Vx = 64 })
	}
	go64 := doing(1, api.Input{Dx: 2})
	// The shot is where the player was, and where it comes.
	checkStep(t, call{g, 0, at(f, player(1, 500, 500), shot(5000, 500, 500, 2)), go64, nil}, at(f+1, walked(100), flown(5000, 500, 500, 160, 0, 2)), nil, api.OK)
	checkStep(t, call{g, 0, at(f, player(1, 500, 500), shot(5000, 404, 500, 2)), go64, nil}, at(f+1, walked(80)), nil, api.OK)
	checkStep(t, call{g, 0, at(f, hurt(player(1, 500, 500), 50), gem(5000, 500, 500)), go64, nil}, at(f+1, walked(50), gem(5000, 500, 500)), nil, api.OK)
	checkStep(t, call{g, 0, at(f, hurt(player(1, 500, 500), 50), gem(5000, 596, 500)), go64, nil}, at(f+1, walked(75)), nil, api.OK)
	for x, health := range map[int]int{435: 50, 436: 40, 371: 50, 692: 40, 693: 50} {
		checkStep(t, call{g, 0, at(f, hurt(player(1, 500, 500), 50)), go64, []api.Cross{blast(0, 0, f-1, x, 500)}}, at(f+1, walked(health)), nil, api.OK)
	}
	// A new shot hits in its first frame, behind its first step.
	checkStep(t, call{g, 0, at(f, player(1, 500, 500), player(2, 684, 500)), doing(1, api.Input{Fire: true}), nil}, at(f+1, shooter(1, 500, 500), hurt(player(2, 684, 500), 80)), nil, api.OK)
	checkStep(t, call{g, 0, at(f, player(1, 500, 500), player(2, 520, 500)), doing(1, api.Input{Fire: true}), nil}, at(f+1, shooter(1, 500, 500), player(2, 520, 500), flown(first(g, 0, f), 500, 500, 160, 0, 1)), nil, api.OK)
	// Who is over the border then is hit, and picks up, in its old region still.
	gone := with(hurt(player(1, 1064, 500), 65), func(e *api.Entity) { e.Vx = 64 })
	c := call{g, 0, at(f, player(1, 1000, 500), shot(5000, 880, 500, 2)), go64, []api.Cross{blast(1, 0, f-1, 1192, 628), blast(1, 0, f-1, 1193, 500)}}
	checkStep(t, c, at(f+1), []api.Cross{hand(0, 1, f, hurt(gone, 70))}, api.OK)
	// With a gem at the border too.
	c.s = at(f, hurt(player(1, 1000, 500), 60), gem(4000, 1023, 500))
	checkStep(t, c, at(f+1, gem(4000, 1023, 500)), []api.Cross{hand(0, 1, f, hurt(gone, 50))}, api.OK)
	c.inputs = doing(1, api.Input{Dx: 1})
	c.inbox = nil
	checkStep(t, c, at(f+1), []api.Cross{hand(0, 1, f, with(hurt(player(1, 1032, 500), 85), func(e *api.Entity) { e.Vx = 32 }))}, api.OK)
}

// TestFall: who falls blows up in all near regions, its own too, and stands anew.
func TestFall(t *testing.T) {
	eachRegion(t, func(g grid.Grid, r int) {
		f := quiet(g, 55, r)
		x, y := g.Corner(r)
		x, y = x+500, y+400
		near := func(l ...[2]int) []api.Cross {
			var out []api.Cross
			for to := range g.Cols * g.Rows {
				dc, dr := to%g.Cols-r%g.Cols, to/g.Cols-r/g.Cols
				for _, p := range l {
					if dc >= -1 && dc <= 1 && dr >= -1 && dr <= 1 {
						out = append(out, blast(r, to, f, p[0], p[1]))
					}
				}
			}
			return out
		}
		for health := 1; health <= 30; health++ {
			c := call{g, r, at(f, hurt(player(3, x, y), health), shot(5000, x-160, y, 2)), doing(3, api.Input{}), nil}
			if health <= 20 {
				checkStep(t, c, at(f+1, raised(g, r, f, 3)), near([2]int{x, y}), api.OK)
			} else {
				checkStep(t, c, at(f+1, hurt(player(3, x, y), health-20)), nil, api.OK)
			}
			c = call{g, r, at(f, hurt(player(3, x, y), health)), none(), []api.Cross{blast(r, r, f-1, x+128, y-128)}}
			if health <= 10 {
				checkStep(t, c, at(f+1, raised(g, r, f, 3)), near([2]int{x, y}), api.OK)
			} else {
				checkStep(t, c, at(f+1, hurt(player(3, x, y), health-10)), nil, api.OK)
			}
		}
		// Two at once, and one between them who does not; what they send off hurts nobody in this frame.
		s := at(f, hurt(player(1, x, y), 10), player(2, x, y), hurt(player(6, x-9, y), 3))
		checkStep(t, call{g, r, s, none(), []api.Cross{blast(r, r, f-1, x, y)}}, at(f+1, raised(g, r, f, 1), hurt(player(2, x, y), 90), raised(g, r, f, 6)), near([2]int{x - 9, y}, [2]int{x, y}), api.OK)
	})
}

// TestFallFrames: where one stands anew hangs on the frame and its number alone.
func TestFallFrames(t *testing.T) {
	g := arena(t, 1, 1)
	for f := 1; f < 300; f++ {
		for _, id := range []int{1, 4} {
			s := at(f, hurt(player(id, 20, 20), 1))
			want := list(raised(g, 0, f, id))
			if chance.Below(8, g.Seed, 3, f, 0) == 0 {
				want = append(want, gemOf(g, 0, f, 0))
			}
			checkStep(t, call{g, 0, s, none(), []api.Cross{blast(0, 0, f-1, 20, 20)}}, at(f+1, want...), []api.Cross{blast(0, 0, f, 20, 20)}, api.OK)
		}
	}
}

// TestFallFields: nothing of its steps and its shot stays with who fell; its shot flies on.
func TestFallFields(t *testing.T) {
	g := arena(t, 2, 1)
	f := quiet(g, 55, 0)
	s := at(f, with(player(2, 500, 500), func(e *api.Entity) { e.Health, e.Vx = 10, 64 }))
	box := []api.Cross{blast(0, 0, f-1, 500, 500)}
	checkStep(t, call{g, 0, s, doing(2, api.Input{Dx: 2, Dy: -1, Fire: true}), box}, at(f+1, raised(g, 0, f, 2), flown(first(g, 0, f), 500, 500, 160, -160, 2)), []api.Cross{blast(0, 0, f, 564, 468), blast(0, 1, f, 564, 468)}, api.OK)
	s.Entities[0].Age = 6
	checkStep(t, call{g, 0, s, none(), box}, at(f+1, raised(g, 0, f, 2)), []api.Cross{blast(0, 0, f, 500, 500), blast(0, 1, f, 500, 500)}, api.OK)
	// Over the border: it blows up where it is, and stands in its old region.
	s = at(f, hurt(player(2, 1000, 500), 10))
	box = []api.Cross{blast(0, 0, f-1, 1000, 500)}
	checkStep(t, call{g, 0, s, doing(2, api.Input{Dx: 2}), box}, at(f+1, raised(g, 0, f, 2)), []api.Cross{blast(0, 0, f, 1064, 500), blast(0, 1, f, 1064, 500)}, api.OK)
	// Nothing hits it, and it picks up nothing, where it stands then.
	e := raised(g, 0, f, 2)
	s = at(f, hurt(player(2, 500, 500), 10), gem(4000, e.X, e.Y), with(shot(5000, e.X, e.Y-160, 1), func(e *api.Entity) { e.Vx, e.Vy = 0, 160 }))
	if e.Y < 160 || max(e.X-500, 500-e.X, e.Y-500, 500-e.Y) < 150 {
		t.Fatalf("another frame is asked for: %+v", e)
	}
	box = []api.Cross{blast(0, 0, f-1, 500, 500), blast(0, 0, f-1, e.X, e.Y)}
	checkStep(t, call{g, 0, s, none(), box}, at(f+1, e, gem(4000, e.X, e.Y), flown(5000, e.X, e.Y-160, 0, 160, 1)), []api.Cross{blast(0, 0, f, 500, 500), blast(0, 1, f, 500, 500)}, api.OK)
}

// TestGrow: a gem comes by chance alone, of the seed, the frame and the region.
func TestGrow(t *testing.T) {
	for _, seed := range []uint64{0, 1, 77, 1 << 63} {
		g := arena(t, 3, 2)
		g.Seed = seed
		n := 0
		for f := range 200 {
			for r := range 6 {
				want := at(f + 1)
				if chance.Below(8, seed, 3, f, r) == 0 {
					want.Entities = list(gemOf(g, r, f, 0))
					n++
				}
				checkStep(t, call{g, r, at(f), none(), nil}, want, nil, api.OK)
			}
		}
		if n < 60 || n > 400 {
			t.Errorf("P9.2: %d gems of 1200 frames", n)
		}
	}
}

// TestGrowGems: at most three gems; shots do not count, and what was picked up in this frame does not any more.
func TestGrowGems(t *testing.T) {
	g := arena(t, 2, 1)
	f := lucky(g, 80, 1)
	id := first(g, 1, f)
	come := gemOf(g, 1, f, 0)
	for n := range 7 {
		l := someGems(n, 900_000, 1100, 900)
		want := slices.Clone(l)
		if n < 3 {
			want = append(list(come), l...)
		}
		checkStep(t, call{g, 1, at(f, l...), none(), nil}, at(f+1, want...), nil, api.OK)
		// One of them comes in with this frame.
		if n > 0 {
			checkStep(t, call{g, 1, at(f, l[1:]...), none(), []api.Cross{hand(0, 1, f-1, l[0])}}, at(f+1, want...), nil, api.OK)
		}
		// A player picks one up: one less counts.
		p := list(player(2, 1500, 500))
		picked := append(slices.Clone(l), gem(900_500, 1500, 500))
		checkStep(t, call{g, 1, at(f, append(p, picked...)...), none(), nil}, at(f+1, append(p, want...)...), nil, api.OK)
	}
	// Three shots are no gems.
	var l, want []api.Entity
	for i := range 5 {
		l = append(l, shot(900_000+i, 1100, 100*i, 1))
		want = append(want, flown(900_000+i, 1100, 100*i, 160, 0, 1))
	}
	checkStep(t, call{g, 1, at(f, l...), none(), nil}, at(f+1, append(list(come), want...)...), nil, api.OK)
	// Who stands where the gem comes does not pick it up yet.
	p := hurt(player(2, come.X, come.Y), 50)
	checkStep(t, call{g, 1, at(f, p), none(), nil}, at(f+1, p, gem(id, come.X, come.Y)), nil, api.OK)
}

// TestGrowRoom: no gem, where 24 things are: what left over a border counts still, what flew off or hit does not.
func TestGrowRoom(t *testing.T) {
	g := arena(t, 2, 1)
	f := lucky(g, 80, 1)
	come := gemOf(g, 1, f, 0)
	for n := 21; n <= 24; n++ {
		var l, want []api.Entity
		for i := range n {
			l = append(l, shot(900_000+i, 1100, 10*i, 1))
			want = append(want, flown(900_000+i, 1100, 10*i, 160, 0, 1))
		}
		grown := want
		if n < 24 {
			grown = append(list(come), want...)
		}
		checkStep(t, call{g, 1, at(f, l...), none(), nil}, at(f+1, grown...), nil, api.OK)
		last := n - 1
		// The last one flies over the border.
		away := slices.Clone(l)
		away[last] = with(shot(900_000+last, 1100, 900, 1), func(e *api.Entity) { e.Vx = -160 })
		checkStep(t, call{g, 1, at(f, away...), none(), nil}, at(f+1, grown[:len(grown)-1]...), []api.Cross{hand(1, 0, f, flown(900_000+last, 1100, 900, -160, 0, 1))}, api.OK)
		// The last one is too old.
		old := slices.Clone(l)
		old[last].Age = 12
		checkStep(t, call{g, 1, at(f, old...), none(), nil}, at(f+1, append(list(come), want[:last]...)...), nil, api.OK)
		// The last one hits.
		target := player(2, 1500, 900)
		hits := slices.Clone(l)
		hits[last] = shot(900_000+last, 1340, 900, 1)
		checkStep(t, call{g, 1, at(f, append(list(target), hits...)...), none(), nil}, at(f+1, append(list(hurt(target, 80), come), want[:last]...)...), nil, api.OK)
		// A shot of this frame takes the last room.
		if n == 23 {
			p := player(2, 1500, 900)
			id := first(g, 1, f)
			checkStep(t, call{g, 1, at(f, append(list(p), l...)...), doing(2, api.Input{Fire: true}), nil}, at(f+1, append(list(shooter(2, 1500, 900), flown(id, 1500, 900, 160, 0, 2)), want...)...), nil, api.OK)
		}
	}
}
