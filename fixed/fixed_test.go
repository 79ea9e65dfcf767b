package fixed

import (
	"math"
	"math/big"
	"slices"
	"testing"

	"joust/api"
)

const bound = 1<<31 - 1

// edges are the numbers at which something may turn: 0, the bounds, those beside them, and the ends of int.
func edges() []int {
	l := []int{0, 1, 2, 3, 7, 1000, 1 << 16, bound - 1, bound, bound + 1, bound + 2, 1 << 32, 1 << 40, 1 << 62, math.MaxInt - 1, math.MaxInt}
	for _, v := range slices.Clone(l) {
		l = append(l, -v)
	}
	return append(l, math.MinInt, math.MinInt+1)
}

func within(v int) bool { return v >= -bound && v <= bound }

// bigHeld does in numbers without end what the chapter says, so that nothing can go round in the test itself.
func bigHeld(v *big.Int) *big.Int {
	hi, lo := big.NewInt(bound), big.NewInt(-bound)
	if v.Cmp(hi) > 0 {
		return hi
	}
	if v.Cmp(lo) < 0 {
		return lo
	}
	return new(big.Int).Set(v)
}

func bigOf(v int) *big.Int { return bigHeld(big.NewInt(int64(v))) }

func TestHeld(t *testing.T) {
	rows := []struct{ v, want int }{
		{0, 0}, {1, 1}, {-1, -1}, {123456, 123456}, {-123456, -123456},
		{bound - 1, bound - 1}, {bound, bound}, {bound + 1, bound},
		{-bound + 1, -bound + 1}, {-bound, -bound}, {-bound - 1, -bound}, {-bound - 2, -bound},
		{1 << 32, bound}, {-1 << 32, -bound}, {math.MaxInt, bound}, {math.MinInt, -bound},
	}
	for _, r := range rows {
		if got := Held(r.v); got != r.want {
			t.Errorf("P1.1: Held(%d): %d; want %d", r.v, got, r.want)
		}
	}
}

func TestAdd(t *testing.T) {
	rows := []struct {
		l    []int
		want int
	}{
		{nil, 0}, {[]int{}, 0}, {[]int{0}, 0}, {[]int{7}, 7}, {[]int{1, 2, 3}, 6}, {[]int{5, -8}, -3},
		{[]int{bound}, bound}, {[]int{bound + 1}, bound}, {[]int{-bound}, -bound}, {[]int{-bound - 1}, -bound},
		{[]int{bound, 1}, bound}, {[]int{-bound, -1}, -bound}, {[]int{bound, -bound}, 0},
		{[]int{bound, 1, -1}, bound - 1}, {[]int{1, bound, -1}, bound - 1}, {[]int{-1, bound, 1}, bound},
		{[]int{-bound, -5, 5}, -bound + 5}, {[]int{bound, bound, bound, -bound}, 0},
		{[]int{math.MaxInt, math.MaxInt}, bound}, {[]int{math.MinInt, math.MinInt}, -bound},
		{[]int{math.MaxInt, math.MinInt}, 0}, {[]int{math.MinInt, math.MaxInt, 1}, 1}, {[]int{1 << 40, -1 << 41, 3}, 3},
	}
	for _, r := range rows {
		if got := Add(r.l...); got != r.want {
			t.Errorf("P1.1: Add(%v): %d; want %d", r.l, got, r.want)
		}
	}
	if got := Add(); got != 0 {
		t.Errorf("P1.1: Add(): %d; want 0", got)
	}
}

// TestAddKeepsItsList: a list that is handed in whole, and the room behind its end, stay as they are (R3).
func TestAddKeepsItsList(t *testing.T) {
	room := []int{math.MaxInt, math.MinInt, bound + 1, 42}
	before := slices.Clone(room)
	Add(room[:3]...)
	if !slices.Equal(room, before) {
		t.Errorf("R3: Add made %v of its list %v", room, before)
	}
}

func TestSub(t *testing.T) {
	rows := []struct{ a, b, want int }{
		{0, 0, 0}, {5, 3, 2}, {3, 5, -2}, {-3, -5, 2}, {0, bound, -bound}, {0, -bound, bound},
		{bound, bound, 0}, {bound, 1, bound - 1}, {bound, -1, bound}, {-bound, 1, -bound}, {-bound, -1, -bound + 1},
		{bound, -bound, bound}, {-bound, bound, -bound}, {bound + 1, 1, bound - 1}, {-bound - 1, -1, -bound + 1},
		{bound + 1, bound + 5, 0}, {math.MaxInt, math.MaxInt, 0}, {math.MinInt, math.MinInt, 0},
		{math.MaxInt, math.MinInt, bound}, {math.MinInt, math.MaxInt, -bound}, {0, math.MinInt, bound}, {0, math.MaxInt, -bound},
		{-1, math.MinInt, bound - 1}, {math.MinInt, 1, -bound}, {math.MinInt, -1, -bound + 1},
	}
	for _, r := range rows {
		if got := Sub(r.a, r.b); got != r.want {
			t.Errorf("P1.1: Sub(%d, %d): %d; want %d", r.a, r.b, got, r.want)
		}
	}
}

func TestClamp(t *testing.T) {
	rows := []struct{ v, lo, hi, want int }{
		{5, 0, 9, 5}, {-1, 0, 9, 0}, {0, 0, 9, 0}, {9, 0, 9, 9}, {10, 0, 9, 9}, {4, 4, 4, 4}, {3, 4, 4, 4}, {5, 4, 4, 4},
		{-7, -9, -5, -7}, {-10, -9, -5, -9}, {0, -9, -5, -5},
		{5, 9, 0, 9}, {9, 9, 0, 0}, {10, 9, 0, 0}, {-1, 9, 0, 9},
		{math.MinInt, 1, 2, 1}, {math.MaxInt, 1, 2, 2}, {0, -bound, bound, 0},
		{bound + 1, -bound, bound, bound}, {-bound - 1, -bound, bound, -bound},
		// Clamp's words do not hold: numbers beyond the bounds are answered as they are.
		{bound + 5, 0, math.MaxInt, bound + 5}, {0, math.MaxInt, math.MaxInt, math.MaxInt}, {0, math.MinInt, math.MinInt, math.MinInt},
	}
	for _, r := range rows {
		if got := Clamp(r.v, r.lo, r.hi); got != r.want {
			t.Errorf("P1.1: Clamp(%d, %d, %d): %d; want %d", r.v, r.lo, r.hi, got, r.want)
		}
	}
}

func TestScale(t *testing.T) {
	rows := []struct {
		v, num, den, want int
		e                 api.Errno
	}{
		{6, 1, 2, 3, api.OK}, {7, 3, 2, 10, api.OK}, {-7, 3, 2, -10, api.OK}, {7, -3, 2, -10, api.OK}, {7, 3, -2, -10, api.OK},
		{-7, -3, 2, 10, api.OK}, {-7, -3, -2, -10, api.OK}, {-1, 1, 2, 0, api.OK}, {0, 5, 3, 0, api.OK}, {5, 0, 3, 0, api.OK},
		{5, 1, 0, 0, api.ErrArg}, {0, 0, 0, 0, api.ErrArg}, {math.MaxInt, math.MinInt, 0, 0, api.ErrArg}, {math.MinInt, -1, 0, 0, api.ErrArg},
		{bound, bound, 1, bound, api.OK}, {bound, -bound, 1, -bound, api.OK}, {bound, bound, -1, -bound, api.OK}, {bound, bound, bound, bound, api.OK},
		{bound, 2, 2, bound, api.OK}, {-bound, 3, 3, -bound, api.OK}, {bound, 2, 1, bound, api.OK}, {bound, 1, -1, -bound, api.OK},
		{bound + 1, 1, 1, bound, api.OK}, {bound + 1, 1, 2, bound / 2, api.OK}, {1, bound + 1, 2, bound / 2, api.OK}, {bound, 1, bound + 1, 1, api.OK},
		{1, 1, math.MaxInt, 0, api.OK}, {math.MinInt, 1, -1, bound, api.OK}, {math.MinInt, 1, math.MinInt, 1, api.OK},
		{math.MaxInt, math.MaxInt, math.MaxInt, bound, api.OK}, {math.MinInt, math.MinInt, math.MinInt, -bound, api.OK}, {bound, 1, math.MinInt, -1, api.OK},
	}
	for _, r := range rows {
		if got, e := Scale(r.v, r.num, r.den); got != r.want || e != r.e {
			t.Errorf("P1.2: Scale(%d, %d, %d): %d, error %d; want %d, error %d", r.v, r.num, r.den, got, e, r.want, r.e)
		}
	}
}

func TestFar(t *testing.T) {
	rows := []struct{ ax, ay, bx, by, want int }{
		{0, 0, 0, 0, 0}, {5, 5, 5, 5, 0}, {0, 0, 3, -4, 4}, {0, 0, -4, 3, 4}, {3, -4, 0, 0, 4}, {10, 0, 0, 3, 10}, {-10, 0, 10, 0, 20}, {0, -10, 0, 10, 20},
		{2, 7, 2, 9, 2}, {0, 0, bound, 0, bound}, {0, 0, 0, -bound, bound}, {bound, 0, -1, 0, bound}, {-bound, 0, bound, 0, bound},
		{bound + 1, 0, bound + 9, 0, 0}, {math.MaxInt, 0, math.MinInt, 0, bound}, {0, math.MinInt, 0, math.MaxInt, bound},
		{math.MinInt, math.MinInt, math.MinInt, math.MinInt, 0}, {0, 0, math.MinInt, 0, bound}, {math.MaxInt, 5, math.MaxInt, 8, 3},
	}
	for _, r := range rows {
		if got := Far(r.ax, r.ay, r.bx, r.by); got != r.want {
			t.Errorf("P1.2: Far(%d, %d, %d, %d): %d; want %d", r.ax, r.ay, r.bx, r.by, got, r.want)
		}
	}
}

// TestTwoAtTheEdges holds all pairs of edges against numbers without end, and what comes out against the bounds.
func TestTwoAtTheEdges(t *testing.T) {
	for _, a := range edges() {
		if got, want := Held(a), bigOf(a); int64(got) != want.Int64() || !within(got) {
			t.Errorf("P1.1: Held(%d): %d; want %d", a, got, want)
		}
		for _, b := range edges() {
			sum := bigHeld(new(big.Int).Add(bigOf(a), bigOf(b)))
			if got := Add(a, b); int64(got) != sum.Int64() || !within(got) {
				t.Errorf("P1.1: Add(%d, %d): %d; want %d", a, b, got, sum)
			}
			less := bigHeld(new(big.Int).Sub(bigOf(a), bigOf(b)))
			if got := Sub(a, b); int64(got) != less.Int64() || !within(got) {
				t.Errorf("P1.1: Sub(%d, %d): %d; want %d", a, b, got, less)
			}
			far := new(big.Int).Abs(less)
			if x, y := Far(a, 0, b, 0), Far(0, a, 0, b); int64(x) != far.Int64() || y != x || !within(x) {
				t.Errorf("P1.2: Far of %d and %d: %d and %d; want %d", a, b, x, y, far)
			}
			if got := Clamp(a, -bound, Held(b)); !within(got) {
				t.Errorf("P1.1: Clamp(%d, %d, %d) is beyond the bounds: %d", a, -bound, Held(b), got)
			}
		}
	}
}

// TestThreeAtTheEdges does the same for what takes three numbers.
func TestThreeAtTheEdges(t *testing.T) {
	for _, a := range edges() {
		for _, b := range edges() {
			for _, c := range edges() {
				checkScale(t, a, b, c)
				sum := bigHeld(new(big.Int).Add(bigHeld(new(big.Int).Add(bigOf(a), bigOf(b))), bigOf(c)))
				if got := Add(a, b, c); int64(got) != sum.Int64() || !within(got) {
					t.Errorf("P1.1: Add(%d, %d, %d): %d; want %d", a, b, c, got, sum)
				}
			}
		}
	}
}

func checkScale(t *testing.T, v, num, den int) {
	t.Helper()
	got, e := Scale(v, num, den)
	if den == 0 {
		if got != 0 || e != api.ErrArg {
			t.Errorf("P1.2: Scale(%d, %d, 0): %d, error %d; want 0, error %d", v, num, got, e, api.ErrArg)
		}
		return
	}
	want := new(big.Int).Mul(bigOf(v), bigOf(num))
	want = bigHeld(want.Quo(want, bigOf(den)))
	if int64(got) != want.Int64() || e != api.OK || !within(got) {
		t.Errorf("P1.2: Scale(%d, %d, %d): %d, error %d; want %d", v, num, den, got, e, want)
	}
}
