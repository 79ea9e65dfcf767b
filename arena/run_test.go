package arena

import (
	"slices"
	"testing"

	"joust/api"
)

// checkRun asks for Run, twice.
func checkRun(t *testing.T, c api.Config, frames [][]api.Input, want api.World, no api.Errno) {
	t.Helper()
	given := roomy(frames, none(9))
	for i := range given {
		given[i] = roomy(given[i], api.Input{Dx: 1, Fire: true})
	}
	was := wholeFrames(given)
	first, e1 := Run(c, given...)
	second, e2 := Run(c, given...)
	if e1 != no || !same(first, want) {
		t.Errorf("P10.2: Run of %+v, %d frames: %+v, error %d; want %+v, error %d", c, len(frames), first, e1, want, no)
	}
	apart(t, "Run", first)
	if e2 != no || !same(second, want) {
		t.Errorf("R2, R3: a second Run of %+v, %d frames: %+v, error %d; want %+v, error %d", c, len(frames), second, e2, want, no)
	}
	if !slices.EqualFunc(wholeFrames(given), was, slices.Equal[[]api.Input]) {
		t.Errorf("R3: Run: what was handed in is not as it was: %+v; want %+v", wholeFrames(given), was)
	}
}

// wholeFrames is frames with all the room behind their ends, as lists of their own.
func wholeFrames(frames [][]api.Input) [][]api.Input {
	var all [][]api.Input
	for _, l := range frames[:cap(frames)] {
		all = append(all, slices.Clone(l[:cap(l)]))
	}
	return all
}

// TestRunNone: without frames it is Begin, also in what it refuses.
func TestRunNone(t *testing.T) {
	for cols := 1; cols <= 4; cols++ {
		for rows := 1; rows <= 4; rows++ {
			for players := 1; players <= 6; players++ {
				c := config(cols, rows, players)
				want, no := Begin(c)
				checkRun(t, c, nil, want, no)
			}
		}
	}
	for _, c := range wrongConfigs() {
		checkRun(t, c, nil, api.World{}, api.ErrConfig)
		checkRun(t, c, [][]api.Input{none(4)}, api.World{}, api.ErrConfig)
		checkRun(t, c, [][]api.Input{nil, none(9)}, api.World{}, api.ErrConfig)
	}
}

// TestRunFrames: behind each number of frames it is what as many steps make.
func TestRunFrames(t *testing.T) {
	d := &dice{seed: 8}
	for _, c := range []api.Config{config(1, 1, 1), config(2, 1, 3), config(3, 2, 6), config(4, 4, 5)} {
		w, _ := Begin(c)
		var frames [][]api.Input
		in := none(c.Players)
		for range 60 {
			in = d.inputs(in)
			w = wantStep(t, call{c, w, in})
			frames = append(frames, in)
			checkRun(t, c, frames, w, api.OK)
		}
	}
}

// TestRunWalk: by values written out: each frame is of the inputs at its place.
func TestRunWalk(t *testing.T) {
	c := config(2, 1, 1)
	var frames [][]api.Input
	for k := range 9 {
		frames = append(frames, []api.Input{{Dx: 2, Dy: k%2*2 - 1}})
	}
	for n, want := range []api.Entity{{X: 512, Y: 512}, {X: 576, Y: 480}, {X: 640, Y: 512}, {X: 704, Y: 480}, {X: 768, Y: 512}, {X: 832, Y: 480}, {X: 896, Y: 512}, {X: 960, Y: 480}, {X: 1024, Y: 512}, {X: 1088, Y: 480}} {
		w, e := Run(c, frames[:n]...)
		place, found := seek(w, 1)
		over := []int{0, 0, 0, 0, 0, 0, 0, 0, 101, 1}[n]
		if e != api.OK || place != over || found.X != want.X || found.Y != want.Y || w.Regions[1].Frame != n {
			t.Errorf("P10.2: Run of %d frames: the player in %d, %+v, error %d; want in %d, at %d, %d", n, place, found, e, over, want.X, want.Y)
		}
	}
}

// TestRunRefused: one frame that is refused, with none, one and more behind it, whatever they are.
func TestRunRefused(t *testing.T) {
	c := config(2, 1, 6)
	right := none(6)
	for _, wrong := range wrongInputs() {
		for n := range 4 {
			frames := append(slices.Repeat([][]api.Input{right}, n), wrong)
			checkRun(t, c, frames, api.World{}, api.ErrInput)
			checkRun(t, c, append(slices.Clone(frames), right, right), api.World{}, api.ErrInput)
			checkRun(t, c, append(slices.Clone(frames), nil, right), api.World{}, api.ErrInput)
		}
	}
}

// TestRunEnd: as many frames as there may be, and more; of two that are refused the first one tells why.
func TestRunEnd(t *testing.T) {
	c := config(1, 1, 1)
	run := func(frames [][]api.Input, no api.Errno) {
		t.Helper()
		w, e := Run(c, frames...)
		if e != no || no != api.OK && !same(w, api.World{}) || no == api.OK && (w.Regions[0].Frame != len(frames) || !slices.Equal(players(All(w)), []int{1})) {
			t.Errorf("P10.2: Run of %d frames: %+v, error %d; want error %d", len(frames), w, e, no)
		}
	}
	most := slices.Repeat([][]api.Input{{{Dx: 1, Fire: true}}}, 10_000)
	run(most[:9_999], api.OK)
	run(most, api.OK)
	more := func(l ...[]api.Input) [][]api.Input { return append(slices.Clone(most), l...) }
	run(more(none(1)), api.ErrEnd)
	run(more(none(1), none(1), none(1)), api.ErrEnd)
	run(more(none(2)), api.ErrInput)
	run(more(none(1), none(2)), api.ErrEnd)
	run(more(none(2), none(1)), api.ErrInput)
	early := more(none(1))
	early[9_999] = nil
	run(early, api.ErrInput)
}
