package chance

import (
	"math"
	"slices"
	"testing"
)

// The numbers that are wanted here were counted outside this program, in numbers without end.

func TestMix(t *testing.T) {
	rows := []struct{ x, want uint64 }{
		{0, 0}, {1, 0xb456bcfc34c2cb2c}, {2, 0x3abf2a20650683e7}, {3, 0xb5181c509f8d8ce},
		{0x123456789abcdef, 0x87cbfbfe89022cea},
		{1 << 32, 0xba3a9e160a5f1419}, {1<<33 - 1, 0xc08c4a56f3c4443d}, {1 << 33, 0x6b80f8591e1145c3}, {1<<33 + 1, 0x2c0100015f0a2277},
		{1<<63 - 1, 0xabb93df0a930edea}, {1 << 63, 0x8f780810af31a493},
		{math.MaxUint64 - 1, 0x3a8593886c55a02b}, {math.MaxUint64, 0x64b5720b4b825f21},
	}
	for _, r := range rows {
		if got := Mix(r.x); got != r.want {
			t.Errorf("P2.1: Mix(%#x): %#x; want %#x", r.x, got, r.want)
		}
	}
}

type atRow struct {
	seed uint64
	l    []int
	want uint64
}

func atRows() []atRow {
	return []atRow{
		{0, nil, 0}, {0, []int{}, 0}, {1, nil, 0xb456bcfc34c2cb2c}, {math.MaxUint64, nil, 0x64b5720b4b825f21},
		{0, []int{0}, 0x9ca066f1a4ab2eea}, {0, []int{0, 0}, 0x79cfc3dbe5bbfcaf}, {0, []int{0, 0, 0}, 0x8b117e9aca1cf8c2},
		{5, []int{1}, 0xdf5a07e974b9d2d7}, {5, []int{1, 0}, 0x50a8afc116283eef},
		{5, []int{1, 2}, 0xdd461a288052fee1}, {5, []int{2, 1}, 0xf192e143f0810161},
		{5, []int{-1}, 0x517da3f317ceffb0}, {5, []int{-7, 5}, 0xee1dd7f1e43e16ce},
		{42, []int{1000, 9999, 5, 3}, 0x9fbf125fc981db5c}, {7, []int{1 << 32, -1 << 32}, 0xbf30cc6807759fcd},
		{math.MaxUint64, []int{math.MaxInt}, 0xac414b0f17a1acd2}, {math.MaxUint64, []int{math.MinInt}, 0x884b205efe83663b},
		{1 << 63, []int{math.MaxInt, math.MinInt, 3}, 0xf3a8d76c950e2f79},
		{0, []int{0x61c8864680b583eb}, 0}, // this number and 0x9e3779b97f4a7c15 are 2^64: the sum goes round to 0
	}
}

func TestAt(t *testing.T) {
	for _, r := range atRows() {
		if got := At(r.seed, r.l...); got != r.want {
			t.Errorf("P2.1: At(%d, %v): %#x; want %#x", r.seed, r.l, got, r.want)
		}
		if got := At(r.seed, r.l...); got != r.want {
			t.Errorf("P2.1: At(%d, %v) for the second time: %#x; want %#x", r.seed, r.l, got, r.want)
		}
	}
	if got := At(1); got != Mix(1) {
		t.Errorf("P2.1: At(1): %#x; want Mix of 1, %#x", got, Mix(1))
	}
}

func TestBelow(t *testing.T) {
	rows := []struct {
		n    int
		seed uint64
		l    []int
		want int
	}{
		{1, 5, nil, 0}, {1, 5, []int{1, 2}, 0}, {1, math.MaxUint64, []int{math.MinInt}, 0},
		{2, 5, []int{1}, 1}, {2, 5, []int{-1}, 0}, {8, 5, []int{1}, 7}, {8, 1, nil, 4},
		{1000, 5, []int{1, 2}, 641}, {1000, 5, []int{2, 1}, 121}, {1024, 5, []int{-1}, 944}, {1024, 42, []int{1000, 9999, 5, 3}, 860},
		// At is above the greatest int here, so that a rest with a sign would be another one.
		{1000, 1, nil, 604}, {1000, 1 << 63, []int{math.MaxInt, math.MinInt, 3}, 305},
		{math.MaxInt, 1, nil, 3771409529372330797}, {math.MaxInt, math.MaxUint64, []int{math.MinInt}, 597606967925761596},
		{math.MaxInt, 5, []int{1, 0}, 5812088562956910319}, {math.MaxInt, 0, nil, 0},
		{0, 5, nil, 0}, {0, 5, []int{1, 2}, 0}, {-1, 5, []int{1}, 0}, {-3, 5, nil, 0}, {-1000, 5, []int{1}, 0},
		{math.MinInt, 5, []int{1}, 0}, {math.MinInt, 1, nil, 0}, {-math.MaxInt, 5, []int{1, 0}, 0},
	}
	for _, r := range rows {
		if got := Below(r.n, r.seed, r.l...); got != r.want {
			t.Errorf("P2.1: Below(%d, %d, %v): %d; want %d", r.n, r.seed, r.l, got, r.want)
		}
	}
}

// TestBelowIsAtModulo holds Below against At, for all rows of At.
func TestBelowIsAtModulo(t *testing.T) {
	for _, r := range atRows() {
		for _, n := range []int{1, 2, 3, 7, 8, 255, 1 << 31, 1<<32 + 1, 1 << 62, math.MaxInt - 1, math.MaxInt} {
			want := int(r.want % uint64(n))
			if got := Below(n, r.seed, r.l...); got != want || got < 0 || got >= n {
				t.Errorf("P2.1: Below(%d, %d, %v): %d; want %d", n, r.seed, r.l, got, want)
			}
		}
	}
}

// TestListStays: a list that is handed in whole, and the room behind its end, stay as they are (R3).
func TestListStays(t *testing.T) {
	room := []int{math.MaxInt, math.MinInt, -1, 42}
	before := slices.Clone(room)
	for _, n := range []int{-1, 0, 1, 1000} {
		At(7, room[:3]...)
		Below(n, 7, room[:3]...)
		if !slices.Equal(room, before) {
			t.Fatalf("R3: At or Below(%d) made %v of its list %v", n, room, before)
		}
	}
}
