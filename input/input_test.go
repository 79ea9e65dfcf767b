package input

import (
	"math"
	"testing"

	"joust/api"
)

// ends is numbers beyond the steps that a player may go: those right beside them, those that are small again in fewer bits, and the ends of int.
func ends() []int {
	return []int{-3, 3, -10, 10, 254, 256, 258, -256, 1 << 31, 1 << 32, 1<<32 + 1, -1 << 32, 1 << 61, 1 << 62, -1 << 62, math.MaxInt - 1, math.MaxInt, math.MinInt, math.MinInt + 1, math.MinInt + 2}
}

// rightOnes is all inputs that are right, with their codes as the chapter counts them.
func rightOnes() map[api.Input]byte {
	l := map[api.Input]byte{}
	for dx := -2; dx <= 2; dx++ {
		for dy := -2; dy <= 2; dy++ {
			l[api.Input{Dx: dx, Dy: dy}] = byte((dx+2)*10 + (dy+2)*2)
			l[api.Input{Dx: dx, Dy: dy, Fire: true}] = byte((dx+2)*10 + (dy+2)*2 + 1)
		}
	}
	return l
}

// wrongOnes is inputs with Dx, Dy or both beyond their bounds, with and without Fire.
func wrongOnes() []api.Input {
	var l []api.Input
	for _, v := range ends() {
		for _, fire := range []bool{false, true} {
			for step := -2; step <= 2; step++ {
				l = append(l, api.Input{Dx: v, Dy: step, Fire: fire}, api.Input{Dx: step, Dy: v, Fire: fire})
			}
			for _, other := range ends() {
				l = append(l, api.Input{Dx: v, Dy: other, Fire: fire})
			}
		}
	}
	return l
}

// TestCodeRows: codes that were counted by hand, at the bounds and between them.
func TestCodeRows(t *testing.T) {
	for _, r := range []struct {
		in   api.Input
		want byte
	}{
		{api.Input{}, 24},
		{api.Input{Fire: true}, 25},
		{api.Input{Dx: -2, Dy: -2}, 0},
		{api.Input{Dx: -2, Dy: -2, Fire: true}, 1},
		{api.Input{Dx: -2, Dy: 2, Fire: true}, 9},
		{api.Input{Dx: -1, Dy: -2}, 10},
		{api.Input{Dx: -1, Dy: 1}, 16},
		{api.Input{Dy: -1}, 22},
		{api.Input{Dx: 1, Dy: -2, Fire: true}, 31},
		{api.Input{Dx: 2, Dy: -2}, 40},
		{api.Input{Dx: 2, Dy: 2}, 48},
		{api.Input{Dx: 2, Dy: 2, Fire: true}, 49},
	} {
		if !Right(r.in) || Code(r.in) != r.want {
			t.Errorf("P4.1: %+v: right %v, code %d; want true, %d", r.in, Right(r.in), Code(r.in), r.want)
		}
		if in, is := FromCode(r.want); !is || in != r.in {
			t.Errorf("P4.1: FromCode(%d): %+v, %v; want %+v", r.want, in, is, r.in)
		}
	}
}

// TestCodesThereAndBack: each right input has its code, and no two have the same one.
func TestCodesThereAndBack(t *testing.T) {
	var seen [256]int
	for in, want := range rightOnes() {
		code := Code(in)
		seen[code]++
		if !Right(in) || code != want {
			t.Errorf("P4.1: %+v: right %v, code %d; want true, %d", in, Right(in), code, want)
		}
		if back, is := FromCode(code); !is || back != in {
			t.Errorf("P4.1: FromCode of the code %d of %+v: %+v, %v", code, in, back, is)
		}
	}
	for code, n := range seen {
		if want := code <= 49; (n == 1) != want {
			t.Errorf("P4.1: %d inputs have the code %d", n, code)
		}
	}
}

func TestFromCode(t *testing.T) {
	for v := 0; v <= 255; v++ {
		in, is := FromCode(byte(v))
		switch {
		case v > 49 && (is || in != api.Input{}):
			t.Errorf("P4.1: FromCode(%d): %+v, %v; want nothing, false", v, in, is)
		case v <= 49 && (!is || !Right(in) || Code(in) != byte(v)):
			t.Errorf("P4.1: FromCode(%d): %+v, %v, whose code is %d", v, in, is, Code(in))
		}
	}
}

func TestNotRight(t *testing.T) {
	for _, in := range wrongOnes() {
		if Right(in) || Code(in) != 0 {
			t.Errorf("P4.1: %+v: right %v, code %d; want false, 0", in, Right(in), Code(in))
		}
	}
}

func TestGuessGoesOn(t *testing.T) {
	for last := range rightOnes() {
		guess := Guess(last, true)
		if want := (api.Input{Dx: last.Dx, Dy: last.Dy}); guess != want {
			t.Errorf("P4.2: Guess of %+v: %+v; want %+v", last, guess, want)
		}
		if again := Guess(guess, true); again != guess {
			t.Errorf("P4.2: Guess of the guess %+v: %+v; want the same", guess, again)
		}
	}
}

func TestGuessOfNothing(t *testing.T) {
	for last := range rightOnes() {
		if guess := Guess(last, false); guess != (api.Input{}) {
			t.Errorf("P4.2: Guess of %+v, which is not known: %+v; want nothing", last, guess)
		}
	}
	for _, last := range wrongOnes() {
		for _, known := range []bool{true, false} {
			if guess := Guess(last, known); guess != (api.Input{}) {
				t.Errorf("P4.2: Guess of %+v, known %v, which is not right: %+v; want nothing", last, known, guess)
			}
		}
	}
	if guess := Guess(Guess(api.Input{Dx: 3, Fire: true}, true), true); guess != (api.Input{}) {
		t.Errorf("P4.2: Guess of the guess of what is not right: %+v; want nothing", guess)
	}
}

// TestNewTable: an answer does not hang on what was asked before, nor on what was done with an answer.
func TestNewTable(t *testing.T) {
	first, _ := FromCode(31)
	first.Dx, first.Fire = -2, false
	if again, is := FromCode(31); !is || again != (api.Input{Dx: 1, Dy: -2, Fire: true}) {
		t.Errorf("R2: FromCode(31) a second time: %+v, %v", again, is)
	}
}
