package arena

import (
	"math"
	"slices"
	"testing"

	"joust/api"
	"joust/chance"
	"joust/cross"
	"joust/entity"
	"joust/grid"
	"joust/region"
)

// call is one of Step.
type call struct {
	c      api.Config
	w      api.World
	inputs []api.Input
}

// none is inputs of players who do nothing.
func none(players int) []api.Input { return make([]api.Input, players) }

// doing is inputs of players of whom one does something.
func doing(players, id int, i api.Input) []api.Input {
	l := none(players)
	l[id-1] = i
	return l
}

// checkStep asks for Step, twice.
func checkStep(t *testing.T, k call, want api.World, no api.Errno) {
	t.Helper()
	given, inputs := copyWorld(k.w), roomy(k.inputs, api.Input{Dx: 1, Fire: true})
	was, wasInputs := whole(given), slices.Clone(inputs[:cap(inputs)])
	first, e1 := Step(k.c, given, inputs)
	second, e2 := Step(k.c, given, inputs)
	if e1 != no || !same(first, want) {
		t.Errorf("P10.2: Step of %+v, %+v, with %+v:\n%+v, error %d; want\n%+v, error %d", k.c, k.w, k.inputs, first, e1, want, no)
	}
	apart(t, "Step", first)
	if e2 != no || !same(second, want) {
		t.Errorf("R2, R3: a second Step of %+v: %+v, error %d; want %+v, error %d", k.w, second, e2, want, no)
	}
	if !same(whole(given), was) || !slices.Equal(inputs[:cap(inputs)], wasInputs) {
		t.Errorf("R3: Step: what was handed in is not as it was: %+v, %+v", given, inputs)
	}
}

// wantStep is the world one frame later: each region by itself, with what comes in counted by the tests.
func wantStep(t *testing.T, k call) api.World {
	t.Helper()
	g := gridOf(t, k.c)
	var next api.World
	for r, s := range k.w.Regions {
		var inbox []api.Cross
		for _, from := range nearTo(g.Cols, g.Rows, r) {
			for _, c := range k.w.Outs[from] {
				if c.To == r {
					inbox = append(inbox, c)
				}
			}
		}
		s, out, no := region.Step(g, r, s, k.inputs, inbox...)
		if no != api.OK {
			t.Fatalf("the region %d of %+v, with %+v: error %d", r, k.w, k.inputs, no)
		}
		next.Regions, next.Outs = append(next.Regions, s), append(next.Outs, out)
	}
	return next
}

// still is regions ahead of a frame, and no messages.
func still(frame int, l ...[]api.Entity) api.World {
	w := api.World{Outs: make([][]api.Cross, len(l))}
	for _, r := range l {
		w.Regions = append(w.Regions, api.Region{Frame: frame, Entities: r})
	}
	return w
}

// quiet is a frame from one on in which, and in the two behind it, no gem comes to any of n regions.
func quiet(seed uint64, frame, n int) int {
	comes := func(f int) bool {
		return slices.ContainsFunc([]int{f, f + 1, f + 2}, func(f int) bool {
			for r := range n {
				if chance.Below(8, seed, 3, f, r) == 0 {
					return true
				}
			}
			return false
		})
	}
	for comes(frame) {
		frame++
	}
	return frame
}

// good is a call that is not refused: of six regions, with messages to the first two.
func good() call {
	f := quiet(77, 40, 6)
	w := still(f, list(player(1, 500, 500)), list(player(2, 1500, 500), gem(1000, 1100, 5)), list(player(3, 2500, 500)), nil, list(player(4, 1500, 1500)), list(shot(1002, 2500, 1500, 1)))
	w.Outs[1] = box(blast(1, 0, f-1, 1030, 5), blast(1, 1, f-1, 1030, 5))
	w.Outs[4] = box(hand(4, 1, f-1, player(5, 1100, 1000)))
	return call{config(3, 2, 6), w, none(6)}
}

// TestStepWritten: a call that may be, by values written out.
func TestStepWritten(t *testing.T) {
	k := good()
	f := k.w.Regions[0].Frame
	flown := shot(1002, 2660, 1500, 1)
	flown.Age = 1
	want := still(f+1, list(player(1, 500, 500)), list(player(2, 1500, 500), player(5, 1100, 1000), gem(1000, 1100, 5)), list(player(3, 2500, 500)), nil, list(player(4, 1500, 1500)), list(flown))
	checkStep(t, k, want, api.OK)
	// Each input is of one player, wherever it is; one of a player who is nowhere is asked for too.
	for id := 1; id <= 6; id++ {
		k.inputs[id-1] = api.Input{Dx: id%3 - 1, Dy: 2 - id%2}
	}
	walked := func(e api.Entity) api.Entity {
		e.Vx, e.Vy = 32*(e.Id%3-1), 64-32*(e.Id%2)
		e.X, e.Y = e.X+e.Vx, e.Y+e.Vy
		return e
	}
	for r, s := range want.Regions {
		for i, e := range s.Entities {
			if e.Kind == api.Player {
				want.Regions[r].Entities[i] = walked(e)
			}
		}
	}
	// Player 5 comes over the border into the region 1, and goes back over it in the same frame.
	want.Regions[1].Entities = list(walked(player(2, 1500, 500)), gem(1000, 1100, 5))
	want.Outs[1] = box(hand(1, 4, f, walked(player(5, 1100, 1000))))
	checkStep(t, k, want, api.OK)
}

// unsent takes away what comes into r.
func unsent(w *api.World, r int) {
	for i := range w.Outs {
		w.Outs[i] = slices.DeleteFunc(slices.Clone(w.Outs[i]), func(c api.Cross) bool { return c.To == r })
	}
}

// spoils is, of each error that one region may tell, what makes the region r do so.
func spoils() map[api.Errno][]func(w *api.World, r int) {
	put := func(w *api.World, r int, e api.Entity) { w.Regions[r].Entities = entity.Put(w.Regions[r].Entities, e) }
	send := func(w *api.World, from, to int, c api.Cross) { w.Outs[from] = append(slices.Clone(w.Outs[from]), c) }
	return map[api.Errno][]func(w *api.World, r int){
		api.ErrForm: {
			func(w *api.World, r int) { w.Regions[r].Frame = -1 },
			func(w *api.World, r int) { w.Regions[r].Frame = 10_001 },
			func(w *api.World, r int) { put(w, r, gem(5000, -1, 5)) },
			// One that would be right in another region.
			func(w *api.World, r int) { put(w, r, gem(5000, (r+1)%3*1024+5, 5)) },
			func(w *api.World, r int) { put(w, r, api.Entity{Id: 5000}) },
			func(w *api.World, r int) {
				x, y := r%3*1024+5, r/3*1024+5
				w.Regions[r].Entities = list(gem(5001, x, y), gem(5000, x, y))
			},
		},
		api.ErrArg: {
			func(w *api.World, r int) { send(w, r, r, blast(r, r, w.Regions[r].Frame, 5, 5)) },
			func(w *api.World, r int) { send(w, r, r, blast(r, r, w.Regions[r].Frame-2, 5, 5)) },
			func(w *api.World, r int) { send(w, r, r, blast(r, r, w.Regions[r].Frame-1, -1, 5)) },
			func(w *api.World, r int) { send(w, 4, r, api.Cross{To: r}) },
			func(w *api.World, r int) { send(w, 1, r, hand(1, r, w.Regions[r].Frame-1, player(7, 5, 5))) },
			func(w *api.World, r int) { send(w, 1, r, blast(6, r, w.Regions[r].Frame-1, 5, 5)) },
		},
		api.ErrEnd: {
			func(w *api.World, r int) {
				w.Regions[r].Frame = 10_000
				unsent(w, r)
			},
			func(w *api.World, r int) {
				w.Regions[r].Frame = 10_000
				unsent(w, r)
				send(w, r, r, blast(r, r, 9_999, 5, 5))
			},
		},
	}
}

// TestStepRegionErrors: one region alone tells an error.
func TestStepRegionErrors(t *testing.T) {
	for no, l := range spoils() {
		for r := range 6 {
			for _, spoil := range l {
				k := good()
				spoil(&k.w, r)
				checkStep(t, k, api.World{}, no)
			}
		}
	}
}

// TestStepFirstError: of two regions the first one tells its error, whatever both are.
func TestStepFirstError(t *testing.T) {
	all := spoils()
	for a := range 6 {
		for b := a + 1; b < 6; b++ {
			for no, first := range all {
				for _, second := range all {
					for i := range max(len(first), len(second)) {
						k := good()
						first[i%len(first)](&k.w, a)
						second[i%len(second)](&k.w, b)
						checkStep(t, k, api.World{}, no)
					}
				}
			}
		}
	}
}

// wrongInputs is such as six players do not do.
func wrongInputs() [][]api.Input {
	l := [][]api.Input{nil, none(1), none(5), none(7), none(12)}
	for _, i := range []api.Input{{Dx: 3}, {Dx: -3}, {Dy: 3}, {Dy: -3, Fire: true}, {Dx: math.MinInt}, {Dy: math.MaxInt}, {Dx: 1 << 32}} {
		for id := 1; id <= 6; id++ {
			l = append(l, doing(6, id, i))
		}
	}
	return l
}

// TestStepInputs: inputs that are not right are the first region's error, unless that one is not right itself; other regions are not asked then.
func TestStepInputs(t *testing.T) {
	all := spoils()
	for _, inputs := range wrongInputs() {
		k := good()
		k.inputs = inputs
		checkStep(t, k, api.World{}, api.ErrInput)
		for no, l := range all {
			for _, spoil := range l {
				k := good()
				k.inputs = inputs
				spoil(&k.w, 1)
				checkStep(t, k, api.World{}, api.ErrInput)
				k = good()
				k.inputs = inputs
				spoil(&k.w, 0)
				want := api.ErrInput
				if no == api.ErrForm {
					want = no
				}
				checkStep(t, k, api.World{}, want)
			}
		}
	}
	// Of an empty arena inputs are asked too.
	for players := 1; players <= 6; players++ {
		f := quiet(77, 0, 2)
		for n := range 9 {
			want, no := still(f+1, nil, nil), api.OK
			if n != players {
				want, no = api.World{}, api.ErrInput
			}
			checkStep(t, call{config(2, 1, players), still(f, nil, nil), none(n)}, want, no)
		}
	}
}

// TestStepConfigs: grid.New's error counts ahead of all others.
func TestStepConfigs(t *testing.T) {
	for _, c := range wrongConfigs() {
		for _, w := range []api.World{{}, good().w, still(5, nil, nil, nil, nil), still(-1, nil)} {
			for _, inputs := range [][]api.Input{none(6), none(4), nil} {
				checkStep(t, call{c, w, inputs}, api.World{}, api.ErrConfig)
			}
		}
	}
}

// TestStepCounts: there are as many regions as there are, and as many Outs; that counts ahead of what the regions tell.
func TestStepCounts(t *testing.T) {
	for cols := 1; cols <= 4; cols++ {
		for rows := 1; rows <= 4; rows++ {
			c, f := config(cols, rows, 2), quiet(77, 60, 16)
			for n := range 19 {
				for m := range 19 {
					w := api.World{Regions: slices.Repeat([]api.Region{{Frame: f}}, n), Outs: make([][]api.Cross, m)}
					if n == cols*rows && m == n {
						checkStep(t, call{c, w, none(2)}, still(f+1, make([][]api.Entity, n)...), api.OK)
						continue
					}
					checkStep(t, call{c, w, none(2)}, api.World{}, api.ErrForm)
					checkStep(t, call{c, w, nil}, api.World{}, api.ErrForm)
					for r := range w.Regions {
						w.Regions[r].Frame = 10_000
					}
					checkStep(t, call{c, w, none(2)}, api.World{}, api.ErrForm)
				}
			}
		}
	}
	checkStep(t, call{config(1, 1, 2), api.World{}, none(2)}, api.World{}, api.ErrForm)
}

// TestStepEnd: the last frame is gone through, and there is none behind it.
func TestStepEnd(t *testing.T) {
	for _, c := range []api.Config{config(1, 1, 2), config(3, 2, 2)} {
		g := gridOf(t, c)
		for _, f := range []int{0, 1, 9_998, 9_999, 10_000} {
			w := still(f, make([][]api.Entity, g.Regions())...)
			w.Regions[0].Entities = list(player(1, 500, 500))
			if f == 10_000 {
				checkStep(t, call{c, w, none(2)}, api.World{}, api.ErrEnd)
				checkStep(t, call{c, w, none(3)}, api.World{}, api.ErrInput)
				continue
			}
			want := wantStep(t, call{c, w, none(2)})
			if want.Regions[0].Frame != f+1 {
				t.Fatalf("region.Step of the frame %d: %+v", f, want.Regions[0])
			}
			checkStep(t, call{c, w, none(2)}, want, api.OK)
		}
	}
}

// TestStepFrames: each region asks its own frame alone, so regions of several frames may stand in one world.
func TestStepFrames(t *testing.T) {
	c := config(3, 1, 2)
	w := api.World{Regions: []api.Region{{Frame: 3}, {Frame: 900, Entities: list(player(2, 1500, 500))}, {Frame: 9_999}}, Outs: [][]api.Cross{box(blast(0, 1, 899, 1023, 9)), nil, box(blast(2, 2, 9_998, 2500, 9))}}
	checkStep(t, call{c, w, none(2)}, wantStep(t, call{c, w, none(2)}), api.OK)
	// What came in time for one of them is late for another one.
	w.Outs[0][0].Frame = 2
	checkStep(t, call{c, w, none(2)}, api.World{}, api.ErrArg)
}

// TestStepOuts: who sends, and in which order, is told by the place in Outs.
func TestStepOuts(t *testing.T) {
	c := config(3, 1, 2)
	f := quiet(77, 70, 3)
	left, right := gem(2000, 1100, 5), gem(2000, 1200, 5)
	// Of two of one number the first region's comes.
	w := still(f, nil, nil, nil)
	w.Outs[0], w.Outs[2] = box(hand(0, 1, f-1, left)), box(hand(2, 1, f-1, right))
	checkStep(t, call{c, w, none(2)}, still(f+1, nil, list(left), nil), api.OK)
	w.Outs[0], w.Outs[2] = w.Outs[2], w.Outs[0]
	checkStep(t, call{c, w, none(2)}, still(f+1, nil, list(right), nil), api.OK)
	w.Outs[0], w.Outs[2] = nil, box(hand(0, 1, f-1, right), hand(2, 1, f-1, left))
	checkStep(t, call{c, w, none(2)}, still(f+1, nil, list(right), nil), api.OK)
	// Where there is room for one more thing, the first region's comes, whatever its number is.
	var full []api.Entity
	for i := range 23 {
		full = append(full, gem(3000+i, 1500, 900))
	}
	w = still(f, nil, full, nil)
	w.Outs[0], w.Outs[2] = box(hand(0, 1, f-1, gem(2005, 1100, 5))), box(hand(2, 1, f-1, gem(2000, 1200, 5)))
	checkStep(t, call{c, w, none(2)}, still(f+1, nil, append(list(gem(2005, 1100, 5)), full...), nil), api.OK)
	// A list of a region that is not near is not asked, nor what goes to no region: it may be anything.
	p := player(1, 500, 500)
	w = still(f, list(p), nil, nil)
	w.Outs[2] = box(blast(1, 0, f-1, 500, 500), api.Cross{Kind: 77, To: 0}, api.Cross{Kind: -1, To: 3}, blast(2, -1, 5, 5, 5), blast(2, math.MaxInt, 5, 5, 5))
	checkStep(t, call{c, w, none(2)}, still(f+1, list(p), nil, nil), api.OK)
	w.Outs[1] = box(blast(1, 0, f-1, 500, 500))
	checkStep(t, call{c, w, none(2)}, still(f+1, list(hurt(p, 90)), nil, nil), api.OK)
}

// TestBlastOver: who falls blows up in the near regions one frame later.
func TestBlastOver(t *testing.T) {
	c := config(3, 1, 3)
	f := quiet(77, 90, 3)
	fallen, other, far := hurt(player(1, 1000, 500), 15), player(2, 1100, 500), player(3, 2060, 500)
	w := still(f, list(fallen, shot(5000, 840, 500, 2)), list(other), list(far))
	raised := player(1, chance.Below(1024, 77, 1, f, 1), chance.Below(1024, 77, 2, f, 1))
	next := still(f+1, list(raised), list(other), list(far))
	next.Outs[0] = box(blast(0, 0, f, 1000, 500), blast(0, 1, f, 1000, 500))
	checkStep(t, call{c, w, none(3)}, next, api.OK)
	if max(raised.X-1000, 1000-raised.X, raised.Y-500, 500-raised.Y) <= 128 {
		t.Fatalf("another frame is asked for: %+v", raised)
	}
	checkStep(t, call{c, next, none(3)}, still(f+2, list(raised), list(hurt(other, 90)), list(far)), api.OK)
	// Who comes over the border in that frame is hurt too.
	w.Regions[1].Entities, w.Regions[2].Entities = list(other), nil
	w.Outs[2] = box(hand(2, 1, f-1, player(3, 1120, 600)))
	next = still(f+1, list(raised), list(other, player(3, 1120, 600)), nil)
	next.Outs[0] = box(blast(0, 0, f, 1000, 500), blast(0, 1, f, 1000, 500))
	checkStep(t, call{c, w, none(3)}, next, api.OK)
	checkStep(t, call{c, next, none(3)}, still(f+2, list(raised), list(hurt(other, 90), hurt(player(3, 1120, 600), 90)), nil), api.OK)
}

// seek is where the one with a number is: its region, or its region and 100 if it was handed off there; -1, if it is not there just once.
func seek(w api.World, id int) (int, api.Entity) {
	place, found, n := -1, api.Entity{}, 0
	for r := range w.Regions {
		for _, e := range w.Regions[r].Entities {
			if e.Id == id {
				place, found, n = r, e, n+1
			}
		}
		for _, c := range w.Outs[r] {
			if c.Kind == api.Handoff && c.Entity.Id == id {
				place, found, n = 100+c.To, c.Entity, n+1
			}
		}
	}
	if n != 1 {
		return -1, api.Entity{}
	}
	return place, found
}

// TestWalk: a player goes over all borders without a stop: from region to region, and back.
func TestWalk(t *testing.T) {
	for _, r := range []struct {
		c             api.Config
		i             api.Input
		steps         int
		over, regions []int // the steps behind which it is under way, and where to
		endX, endY    int
	}{
		{config(4, 1, 1), api.Input{Dx: 2}, 60, []int{8, 24, 40}, []int{1, 2, 3}, 4095, 512},
		{config(1, 4, 1), api.Input{Dy: 1}, 112, []int{16, 48, 80}, []int{1, 2, 3}, 512, 4095},
		{config(2, 2, 1), api.Input{Dx: 2, Dy: 2}, 40, []int{8}, []int{3}, 2047, 2047},
		{config(2, 1, 1), api.Input{Dx: -2}, 20, nil, nil, 0, 512},
	} {
		w, _ := Begin(r.c)
		at, x, y := 0, 512, 512
		for k := 1; k <= r.steps; k++ {
			next, e := Step(r.c, w, []api.Input{r.i})
			if e != api.OK {
				t.Fatalf("P10.2: Step %d: error %d", k, e)
			}
			w = next
			x, y = min(max(x+32*r.i.Dx, 0), r.c.Cols*1024-1), min(max(y+32*r.i.Dy, 0), r.c.Rows*1024-1)
			want := at
			if n := slices.Index(r.over, k); n >= 0 {
				at = r.regions[n]
				want = 100 + at
			}
			e1 := player(1, x, y)
			e1.Vx, e1.Vy = 32*r.i.Dx, 32*r.i.Dy
			if place, found := seek(w, 1); place != want || found != e1 {
				t.Fatalf("W2: the player behind the step %d: in %d, %+v; want in %d, %+v", k, place, found, want, e1)
			}
		}
		if x != r.endX || y != r.endY {
			t.Errorf("the walk ends at %d, %d; want %d, %d", x, y, r.endX, r.endY)
		}
	}
	// There and back again: over the border it turns, and is in the old region two steps later.
	c := config(2, 1, 1)
	w, _ := Begin(c)
	for k, want := range []int{0, 0, 0, 0, 0, 0, 0, 101, 100, 101, 100, 0, 0} {
		i := api.Input{Dx: 2}
		if k == 8 || k >= 10 {
			i.Dx = -2
		}
		w, _ = Step(c, w, []api.Input{i})
		if place, _ := seek(w, 1); place != want {
			t.Fatalf("W2: there and back, behind the step %d: in %d; want in %d", k+1, place, want)
		}
	}
}

// TestShotOver: a shot flies over a border, and hits there.
func TestShotOver(t *testing.T) {
	c := config(2, 1, 2)
	w, _ := Begin(c)
	for k, want := range []int{0, 0, 0, 101, 1, -1} {
		in := none(2)
		if k == 0 {
			in[0].Fire = true
		}
		if k < 2 {
			in[1].Dx = -1
		}
		next, e := Step(c, w, in)
		if e != api.OK {
			t.Fatalf("P10.2: Step %d: error %d", k+1, e)
		}
		w = next
		fly := api.Entity{Id: 1000, Kind: api.Shot, X: 672 + 160*k, Y: 512, Vx: 160, Health: 1, Age: k + 1, Owner: 1}
		health := 100
		if want < 0 {
			fly, health = api.Entity{}, 80
		}
		if place, found := seek(w, 1000); place != want || found != fly {
			t.Errorf("P10.2: the shot behind the step %d: in %d, %+v; want in %d, %+v", k+1, place, found, want, fly)
		}
		if place, found := seek(w, 2); place != 1 || found.Health != health {
			t.Errorf("P10.2: the other player behind the step %d: in %d, %+v; want its Health %d", k+1, place, found, health)
		}
	}
}

// dice throws numbers that are the same in each run.
type dice struct {
	seed uint64
	n    int
}

func (d *dice) below(n int) int {
	d.n++
	return chance.Below(n, d.seed, d.n)
}

// inputs is what players do who mostly go on as they did.
func (d *dice) inputs(was []api.Input) []api.Input {
	l := slices.Clone(was)
	for i := range l {
		if d.below(6) == 0 {
			l[i] = api.Input{Dx: d.below(5) - 2, Dy: d.below(5) - 2}
		}
		l[i].Fire = d.below(2) == 0
	}
	return l
}

// weaken takes most of the players' healths, and lets a Blast go off where each one is, so that most of them fall.
func weaken(w api.World, frame int) {
	for r := range w.Regions {
		for i, e := range w.Regions[r].Entities {
			if e.Kind == api.Player {
				w.Regions[r].Entities[i].Health = 5 + e.Id
				w.Outs[r] = append(w.Outs[r], blast(r, r, frame-1, e.X, e.Y))
			}
		}
	}
}

// rightWorld: is each region right, and all that it emitted, and in order?
func rightWorld(g grid.Grid, w api.World, frame int) bool {
	for r, s := range w.Regions {
		if s.Frame != frame || !region.Right(g, r, s) {
			return false
		}
		for i, c := range w.Outs[r] {
			if !cross.Right(g, c) || c.From != r || c.Frame != frame-1 || i > 0 && cross.Less(c, w.Outs[r][i-1]) {
				return false
			}
		}
	}
	return true
}

// players is the numbers of the players in l, in order.
func players(l []api.Entity) []int {
	var ids []int
	for _, e := range l {
		if e.Kind == api.Player {
			ids = append(ids, e.Id)
		}
	}
	return ids
}

// TestWhole: all arenas, frame by frame: each region by itself is the whole, and each player is there just once.
func TestWhole(t *testing.T) {
	d := &dice{seed: 5}
	hands, blasts := 0, 0
	for cols := 1; cols <= 4; cols++ {
		for rows := 1; rows <= 4; rows++ {
			c := config(cols, rows, 1+(cols+3*rows)%6)
			c.Seed = uint64(cols*10 + rows)
			g, all := gridOf(t, c), []int{1, 2, 3, 4, 5, 6}[:c.Players]
			w, _ := Begin(c)
			in := none(c.Players)
			for f := range 200 {
				if f%20 == 19 {
					weaken(w, f)
				}
				in = d.inputs(in)
				k := call{c, w, in}
				want := wantStep(t, k)
				checkStep(t, k, want, api.OK)
				w = want
				if got := players(All(w)); !slices.Equal(got, all) || !rightWorld(g, w, f+1) {
					t.Fatalf("W2: behind the frame %d the players %v: %+v", f, got, w)
				}
				for _, x := range slices.Concat(w.Outs...) {
					if x.Kind == api.Handoff {
						hands++
					} else {
						blasts++
					}
				}
				if t.Failed() {
					return
				}
			}
		}
	}
	if hands < 100 || blasts < 100 {
		t.Errorf("too little is asked: %d were handed off, %d Blasts", hands, blasts)
	}
}
