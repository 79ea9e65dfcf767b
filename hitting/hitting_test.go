package hitting

import (
	"math"
	"slices"
	"testing"

	"joust/api"
)

// bound is the greatest number that fixed tells; its negative is the least one.
const bound = 1<<31 - 1

// player, shot and gem have something in each field that they may have, so that it shows if one is lost.
func player(id, x, y, health int) api.Entity {
	return api.Entity{Id: id, Kind: api.Player, X: x, Y: y, Vx: 32, Vy: -64, Health: health, Age: 3}
}

func shot(id, x, y, owner int) api.Entity {
	return api.Entity{Id: id, Kind: api.Shot, X: x, Y: y, Vx: -160, Vy: 160, Health: 1, Age: 5, Owner: owner}
}

func gem(id, x, y int) api.Entity {
	return api.Entity{Id: id, Kind: api.Gem, X: x, Y: y, Health: 1}
}

func blast(x, y int) api.Cross {
	return api.Cross{Kind: api.Blast, From: 3, To: 4, Frame: 17, X: x, Y: y}
}

// list is its entities.
func list(l ...api.Entity) []api.Entity { return l }

// otherKinds is such as no entity has, and no message, also those that are one again in fewer bits.
func otherKinds() []int {
	return []int{0, 4, 5, -1, -2, -3, 257, 258, 259, 1<<32 + 1, 1<<32 + 2, 1<<32 + 3, math.MaxInt, math.MinInt, math.MinInt + 1}
}

// roomy is a copy of l with room behind its end, and all of that memory.
func roomy[T any](l []T, filler T) (part, whole []T) {
	whole = append(slices.Clone(l), filler, filler, filler)
	return whole[:len(l)], whole
}

// overwrite writes into all memory of l, also into the room behind its end.
func overwrite[T any](l []T, filler T) {
	l = l[:cap(l)]
	for i := range l {
		l[i] = filler
	}
}

// check asks for call of l, twice: what came in stays, with the room behind its end, whoever writes into what came out.
func check(t *testing.T, name string, call func(l []api.Entity) []api.Entity, l, want []api.Entity) {
	t.Helper()
	filler := api.Entity{Id: 77, Kind: api.Player, X: 7, Y: 7, Health: 7}
	given, whole := roomy(l, filler)
	was := slices.Clone(whole)
	first := call(given)
	second := call(given)
	for _, got := range [][]api.Entity{first, second} {
		if !slices.Equal(got, want) {
			t.Errorf("%s of %+v: %+v; want %+v", name, l, got, want)
		}
	}
	overwrite(first, api.Entity{Id: -1})
	if !slices.Equal(whole, was) || !slices.Equal(second, want) {
		t.Errorf("R3: %s of %+v: what was written into the answer, or what the call did, is seen elsewhere", name, l)
	}
}

// checkShots and checkGems ask for P8.1, checkBlasts and checkFallen for P8.2.
func checkShots(t *testing.T, l, want []api.Entity) {
	t.Helper()
	check(t, "P8.1: Shots", Shots, l, want)
}

func checkGems(t *testing.T, l, want []api.Entity) {
	t.Helper()
	check(t, "P8.1: Gems", Gems, l, want)
}

func checkBlasts(t *testing.T, l []api.Entity, blasts []api.Cross, want []api.Entity) {
	t.Helper()
	given, whole := roomy(blasts, blast(0, 0))
	was := slices.Clone(whole)
	check(t, "P8.2: Blasts", func(l []api.Entity) []api.Entity { return Blasts(l, given...) }, l, want)
	if !slices.Equal(whole, was) {
		t.Errorf("R3: Blasts made %+v of its blasts %+v", whole, was)
	}
}

func checkFallen(t *testing.T, l []api.Entity, want ...int) {
	t.Helper()
	given, whole := roomy(l, api.Entity{Id: 77, Kind: api.Player})
	was := slices.Clone(whole)
	for range 2 {
		got := Fallen(given)
		if !slices.Equal(got, want) {
			t.Errorf("P8.2: Fallen of %+v: %v; want %v", l, got, want)
		}
		overwrite(got, -5)
	}
	if !slices.Equal(whole, was) {
		t.Errorf("R3: Fallen made %+v of %+v", whole, was)
	}
}

// far is how far x and y are from 0 and 0.
func far(x, y int) int { return max(x, -x, y, -y) }

// offsets is those at which a reach may begin or end, both ways, and others ahead of it and beyond.
func offsets(reach int) []int {
	return []int{-1000, -2 * reach, -reach - 2, -reach - 1, -reach, -reach + 1, -reach / 2, -2, -1, 0, 1, 2, reach / 2, reach - 1, reach, reach + 1, reach + 2, 2 * reach, 1000}
}

// centres is places in an arena, at its walls, and beyond it.
func centres() [][2]int {
	return [][2]int{{500, 500}, {0, 0}, {1023, 1024}, {4095, 4095}, {-300, 70000}}
}

// TestReach: of one thing and one player, the distances along each axis and both.
func TestReach(t *testing.T) {
	for _, c := range centres() {
		for _, dx := range offsets(24) {
			for _, dy := range offsets(24) {
				l := list(player(1, c[0]+dx, c[1]+dy, 100), shot(1000, c[0], c[1], 2))
				if far(dx, dy) <= 24 {
					checkShots(t, l, list(player(1, c[0]+dx, c[1]+dy, 80)))
				} else {
					checkShots(t, l, l)
				}
			}
		}
		for _, dx := range offsets(32) {
			for _, dy := range offsets(32) {
				l := list(player(1, c[0]+dx, c[1]+dy, 30), gem(1000, c[0], c[1]))
				if far(dx, dy) <= 32 {
					checkGems(t, l, list(player(1, c[0]+dx, c[1]+dy, 55)))
				} else {
					checkGems(t, l, l)
				}
			}
		}
		for _, dx := range offsets(128) {
			for _, dy := range offsets(128) {
				l := list(player(1, c[0]+dx, c[1]+dy, 100))
				want := list(player(1, c[0]+dx, c[1]+dy, 100))
				if far(dx, dy) <= 128 {
					want[0].Health = 90
				}
				checkBlasts(t, l, []api.Cross{blast(c[0], c[1])}, want)
			}
		}
	}
}

// TestReachHeld: places beyond the bounds of fixed count as at them, and no distance goes round.
func TestReachHeld(t *testing.T) {
	for _, r := range []struct{ player, thing, far int }{
		{math.MaxInt, bound, 0}, {math.MaxInt, math.MaxInt, 0}, {math.MaxInt, bound - 24, 24}, {math.MaxInt, bound - 25, 25}, {math.MaxInt, bound - 32, 32}, {math.MaxInt, bound - 33, 33}, {math.MaxInt, bound - 128, 128}, {math.MaxInt, bound - 129, 129},
		{math.MinInt, -bound, 0}, {math.MinInt, math.MinInt, 0}, {math.MinInt, -bound + 24, 24}, {math.MinInt, -bound + 25, 25}, {math.MinInt, -bound + 32, 32}, {math.MinInt, -bound + 33, 33}, {math.MinInt, -bound + 128, 128}, {math.MinInt, -bound + 129, 129},
		{math.MaxInt, math.MinInt, bound}, {math.MaxInt - 5, math.MinInt + 6, bound}, {math.MaxInt, 0, bound}, {math.MinInt, 0, bound}, {bound, -bound, bound}, {bound - 3, -bound, bound}, {1 << 32, 0, bound}, {-1 << 32, 5, bound}, {1<<32 + 7, bound - 20, 20},
	} {
		for _, axes := range [][2]int{{1, 0}, {0, 1}, {1, 1}} {
			checkFar(t, axes, r.player, r.thing, r.far)
			checkFar(t, axes, r.thing, r.player, r.far)
		}
	}
}

// checkFar asks for all calls with a player at from and a thing at to along those axes; along the other one both are at 0.
func checkFar(t *testing.T, axes [2]int, from, to, far int) {
	t.Helper()
	at := func(health int) api.Entity { return player(1, axes[0]*from, axes[1]*from, health) }
	x, y := axes[0]*to, axes[1]*to
	hit, picked, blown := list(at(50), shot(1000, x, y, 2)), list(at(50), gem(1000, x, y)), list(at(50))
	if far <= 24 {
		hit = list(at(30))
	}
	if far <= 32 {
		picked = list(at(75))
	}
	if far <= 128 {
		blown = list(at(40))
	}
	checkShots(t, list(at(50), shot(1000, x, y, 2)), hit)
	checkGems(t, list(at(50), gem(1000, x, y)), picked)
	checkBlasts(t, list(at(50)), []api.Cross{blast(x, y)}, blown)
}

// TestShotsOwner: a shot goes through the one who sent it off, to the first one behind.
func TestShotsOwner(t *testing.T) {
	for _, r := range []struct{ l, want []api.Entity }{
		{list(player(1, 100, 100, 100), shot(1000, 100, 100, 1)), list(player(1, 100, 100, 100), shot(1000, 100, 100, 1))},
		{list(player(1, 100, 100, 100), player(2, 124, 76, 100), shot(1000, 100, 100, 1)), list(player(1, 100, 100, 100), player(2, 124, 76, 80))},
		{list(player(1, 100, 100, 100), player(2, 125, 100, 100), shot(1000, 100, 100, 1)), list(player(1, 100, 100, 100), player(2, 125, 100, 100), shot(1000, 100, 100, 1))},
		{list(player(1, 100, 100, 100), player(2, 100, 100, 100), player(3, 100, 100, 100), shot(1000, 100, 100, 2)), list(player(1, 100, 100, 80), player(2, 100, 100, 100), player(3, 100, 100, 100))},
		{list(player(1, 100, 100, 100), player(2, 100, 100, 100), player(3, 100, 100, 100), shot(1000, 100, 100, 1)), list(player(1, 100, 100, 100), player(2, 100, 100, 80), player(3, 100, 100, 100))},
		{list(player(1, 100, 100, 100), player(2, 500, 100, 100), player(3, 100, 100, 100), shot(1000, 100, 100, 1)), list(player(1, 100, 100, 100), player(2, 500, 100, 100), player(3, 100, 100, 80))},
		{list(player(1, 100, 100, 100), player(2, 100, 100, 100), shot(1000, 100, 100, 1), shot(1001, 100, 100, 2)), list(player(1, 100, 100, 80), player(2, 100, 100, 80))},
		// Two have the owner's number: it goes through both.
		{list(player(1, 100, 100, 100), player(1, 100, 100, 90), player(2, 100, 100, 100), shot(1000, 100, 100, 1)), list(player(1, 100, 100, 100), player(1, 100, 100, 90), player(2, 100, 100, 80))},
		// Owners that nobody is, or only in fewer bits.
		{list(player(1, 100, 100, 100), shot(1000, 100, 100, 0)), list(player(1, 100, 100, 80))},
		{list(player(1, 100, 100, 100), shot(1000, 100, 100, 1<<32+1)), list(player(1, 100, 100, 80))},
		{list(player(0, 100, 100, 100), shot(1000, 100, 100, 0)), list(player(0, 100, 100, 100), shot(1000, 100, 100, 0))},
		{list(player(math.MinInt, 100, 100, 100), player(math.MaxInt, 100, 100, 100), shot(1000, 100, 100, math.MinInt)), list(player(math.MinInt, 100, 100, 100), player(math.MaxInt, 100, 100, 80))},
	} {
		checkShots(t, r.l, r.want)
	}
}

// TestShotsMany: two shots at one player, one shot at two, and what is left stays in order.
func TestShotsMany(t *testing.T) {
	for _, r := range []struct{ l, want []api.Entity }{
		{nil, nil}, {list(), nil},
		{list(player(1, 0, 0, 100)), list(player(1, 0, 0, 100))}, {list(shot(1000, 0, 0, 1)), list(shot(1000, 0, 0, 1))},
		{list(player(1, 0, 0, 100), shot(1000, 0, 0, 2), shot(1001, 9, 9, 3)), list(player(1, 0, 0, 60))},
		{list(player(1, 0, 0, 100), player(2, 5, 5, 100), shot(1000, 0, 0, 3)), list(player(1, 0, 0, 80), player(2, 5, 5, 100))},
		// The first one, not the nearest one.
		{list(player(1, 24, 0, 100), player(2, 0, 0, 100), shot(1000, 0, 0, 3)), list(player(1, 24, 0, 80), player(2, 0, 0, 100))},
		// Who has no health any more is a player still, and hit, ahead of who stands behind.
		{list(player(1, 0, 0, 20), player(2, 0, 0, 100), shot(1000, 0, 0, 3), shot(1001, 0, 0, 3), shot(1002, 0, 0, 3)), list(player(1, 0, 0, -40), player(2, 0, 0, 100))},
		{list(player(1, 0, 0, 100), shot(1000, 500, 0, 2), gem(1001, 0, 0), shot(1002, 0, 0, 2), shot(1003, 0, 500, 3), shot(1004, 0, 0, 3), gem(1005, 5, 5)), list(player(1, 0, 0, 60), shot(1000, 500, 0, 2), gem(1001, 0, 0), shot(1003, 0, 500, 3), gem(1005, 5, 5))},
	} {
		checkShots(t, r.l, r.want)
	}
}

// TestShotsUnsorted: numbers that don't rise, or are there twice: the order of the list counts, and one shot alone is gone.
func TestShotsUnsorted(t *testing.T) {
	for _, r := range []struct{ l, want []api.Entity }{
		{list(shot(1000, 0, 0, 3), player(1, 0, 0, 100)), list(player(1, 0, 0, 80))},
		{list(shot(1000, 0, 0, 2), player(2, 0, 0, 100), player(1, 0, 0, 100)), list(player(2, 0, 0, 100), player(1, 0, 0, 80))},
		{list(player(3, 0, 0, 100), player(1, 0, 0, 100), shot(1000, 0, 0, 2)), list(player(3, 0, 0, 80), player(1, 0, 0, 100))},
		{list(player(1, 0, 0, 100), player(1, 0, 0, 50), shot(1000, 0, 0, 2)), list(player(1, 0, 0, 80), player(1, 0, 0, 50))},
		{list(player(1, 500, 0, 100), player(1, 0, 0, 50), shot(1000, 0, 0, 2)), list(player(1, 500, 0, 100), player(1, 0, 0, 30))},
		{list(shot(1000, 0, 0, 2), shot(1000, 500, 0, 2), gem(1000, 0, 0), player(1, 0, 0, 100), shot(1000, 0, 500, 2)), list(shot(1000, 500, 0, 2), gem(1000, 0, 0), player(1, 0, 0, 80), shot(1000, 0, 500, 2))},
		{list(player(1000, 0, 0, 100), shot(1000, 0, 0, 2), shot(5, 0, 0, 2)), list(player(1000, 0, 0, 60))},
		{list(shot(1, 0, 0, 2), player(1, 0, 0, 100), shot(1, 0, 0, 1)), list(player(1, 0, 0, 80), shot(1, 0, 0, 1))},
	} {
		checkShots(t, r.l, r.want)
	}
}

func TestShotsHealth(t *testing.T) {
	for _, r := range []struct{ health, want int }{
		{100, 80}, {21, 1}, {20, 0}, {19, -1}, {1, -19}, {0, -20}, {-5, -25}, {500, 480},
		{bound, bound - 20}, {bound + 1, bound - 20}, {1 << 32, bound - 20}, {math.MaxInt, bound - 20},
		{-bound + 21, -bound + 1}, {-bound + 20, -bound}, {-bound + 19, -bound}, {-bound, -bound}, {-bound - 1, -bound}, {-1 << 32, -bound}, {math.MinInt + 5, -bound}, {math.MinInt, -bound},
	} {
		checkShots(t, list(player(1, 5, 5, r.health), shot(1000, 5, 5, 2)), list(player(1, 5, 5, r.want)))
		// Who is not hit is not held either.
		checkShots(t, list(player(1, 5, 5, r.health), shot(1000, 50, 5, 2)), list(player(1, 5, 5, r.health), shot(1000, 50, 5, 2)))
	}
}

// TestGemsMany: who is first picks up, whatever health it has; what is left stays in order.
func TestGemsMany(t *testing.T) {
	owned := gem(1000, 0, 0)
	owned.Owner = 1
	for _, r := range []struct{ l, want []api.Entity }{
		{nil, nil}, {list(), nil},
		{list(player(1, 0, 0, 10)), list(player(1, 0, 0, 10))}, {list(gem(1000, 0, 0)), list(gem(1000, 0, 0))},
		{list(player(1, 0, 0, 10), gem(1000, 0, 0), gem(1001, 32, -32)), list(player(1, 0, 0, 60))},
		{list(player(1, 0, 0, 10), player(2, 0, 0, 5), gem(1000, 0, 0)), list(player(1, 0, 0, 35), player(2, 0, 0, 5))},
		{list(player(1, 32, 0, 10), player(2, 0, 0, 5), gem(1000, 0, 0)), list(player(1, 32, 0, 35), player(2, 0, 0, 5))},
		{list(player(1, 33, 0, 10), player(2, 0, 0, 5), gem(1000, 0, 0)), list(player(1, 33, 0, 10), player(2, 0, 0, 30))},
		// With full health it is picked up, too: nothing is left for who stands behind.
		{list(player(1, 0, 0, 100), player(2, 0, 0, 5), gem(1000, 0, 0), gem(1001, 0, 0)), list(player(1, 0, 0, 100), player(2, 0, 0, 5))},
		{list(player(1, 0, 0, 70), gem(1000, 0, 0), gem(1001, 0, 0), gem(1002, 0, 0)), list(player(1, 0, 0, 100))},
		{list(player(1, 0, 0, 10), gem(1000, 500, 0), shot(1001, 0, 0, 2), gem(1002, 0, 0), gem(1003, 0, 500), shot(1004, 9, 9, 1)), list(player(1, 0, 0, 35), gem(1000, 500, 0), shot(1001, 0, 0, 2), gem(1003, 0, 500), shot(1004, 9, 9, 1))},
		// Of a gem the Owner does not count.
		{list(player(1, 0, 0, 10), player(2, 0, 0, 10), owned), list(player(1, 0, 0, 35), player(2, 0, 0, 10))},
		// Lists that are not sorted.
		{list(gem(1000, 0, 0), player(1, 0, 0, 10)), list(player(1, 0, 0, 35))},
		{list(player(2, 0, 0, 10), gem(1000, 0, 0), player(1, 0, 0, 10)), list(player(2, 0, 0, 35), player(1, 0, 0, 10))},
		{list(gem(1000, 500, 0), gem(1000, 0, 0), shot(1000, 0, 0, 2), player(1000, 0, 0, 10), player(1000, 0, 0, 20), gem(1000, 0, 500)), list(gem(1000, 500, 0), shot(1000, 0, 0, 2), player(1000, 0, 0, 35), player(1000, 0, 0, 20), gem(1000, 0, 500))},
	} {
		checkGems(t, r.l, r.want)
	}
}

func TestGemsHealth(t *testing.T) {
	for _, r := range []struct{ health, want int }{
		{100, 100}, {99, 100}, {76, 100}, {75, 100}, {74, 99}, {50, 75}, {1, 26}, {0, 25}, {-1, 24}, {-25, 0}, {-40, -15},
		{101, 100}, {500, 100}, {bound - 25, 100}, {bound, 100}, {bound + 1, 100}, {1 << 32, 100}, {math.MaxInt - 24, 100}, {math.MaxInt, 100},
		{-bound + 1, -bound + 26}, {-bound, -bound + 25}, {-bound - 1, -bound + 25}, {-1 << 32, -bound + 25}, {math.MinInt, -bound + 25},
	} {
		checkGems(t, list(player(1, 5, 5, r.health), gem(1000, 5, 5)), list(player(1, 5, 5, r.want)))
		// Who picks nothing up keeps what it has, also above full health.
		checkGems(t, list(player(1, 5, 5, r.health), gem(1000, 50, 5)), list(player(1, 5, 5, r.health), gem(1000, 50, 5)))
	}
}

// TestOtherKinds: only players are hit, pick up and are blown; only shots hit, and only gems are picked up.
func TestOtherKinds(t *testing.T) {
	for _, kind := range otherKinds() {
		other := player(1, 5, 5, 50)
		other.Kind = kind
		odd := shot(1000, 5, 5, 2)
		odd.Kind = kind
		for _, l := range [][]api.Entity{list(other), list(other, odd), list(odd, other), list(player(3, 5, 5, 50), odd)} {
			checkShots(t, l, l)
			checkGems(t, l, l)
		}
		checkShots(t, list(other, player(3, 5, 5, 50), shot(1000, 5, 5, 2)), list(other, player(3, 5, 5, 30)))
		checkShots(t, list(other, shot(1000, 5, 5, 2)), list(other, shot(1000, 5, 5, 2)))
		checkGems(t, list(other, player(3, 5, 5, 50), gem(1000, 5, 5)), list(other, player(3, 5, 5, 75)))
		checkGems(t, list(other, gem(1000, 5, 5)), list(other, gem(1000, 5, 5)))
		checkBlasts(t, list(other, player(3, 5, 5, 50)), []api.Cross{blast(5, 5)}, list(other, player(3, 5, 5, 40)))
		other.Health = 0
		checkFallen(t, list(other))
	}
	for _, l := range [][]api.Entity{list(gem(1000, 5, 5), shot(1001, 5, 5, 1)), list(shot(1000, 5, 5, 1), shot(1001, 5, 5, 2)), list(gem(1000, 5, 5), gem(1001, 5, 5))} {
		checkShots(t, l, l)
		checkGems(t, l, l)
		checkBlasts(t, l, []api.Cross{blast(5, 5)}, l)
	}
	both := list(player(1, 5, 5, 50), shot(1000, 5, 5, 2), gem(1001, 5, 5))
	checkShots(t, both, list(player(1, 5, 5, 30), gem(1001, 5, 5)))
	checkGems(t, both, list(player(1, 5, 5, 75), shot(1000, 5, 5, 2)))
	checkBlasts(t, both, []api.Cross{blast(5, 5)}, list(player(1, 5, 5, 40), shot(1000, 5, 5, 2), gem(1001, 5, 5)))
}

// TestBlastsMany: none, several at one player and one at several; all in reach are hurt, not just the first one.
func TestBlastsMany(t *testing.T) {
	l := list(player(1, 100, 100, 100), player(2, 300, 100, 95), player(3, 100, 100, 5), shot(1000, 100, 100, 1), gem(1001, 300, 100))
	for _, r := range []struct {
		blasts  []api.Cross
		healths [3]int
	}{
		{nil, [3]int{100, 95, 5}}, {[]api.Cross{}, [3]int{100, 95, 5}}, {[]api.Cross{blast(1000, 1000)}, [3]int{100, 95, 5}},
		{[]api.Cross{blast(100, 100)}, [3]int{90, 95, -5}}, {[]api.Cross{blast(228, 228)}, [3]int{90, 85, -5}}, {[]api.Cross{blast(228, 229)}, [3]int{100, 95, 5}}, {[]api.Cross{blast(300, -28)}, [3]int{100, 85, 5}},
		{[]api.Cross{blast(200, 100)}, [3]int{90, 85, -5}}, {[]api.Cross{blast(200, 100), blast(200, 100), blast(100, 100)}, [3]int{70, 75, -25}}, {[]api.Cross{blast(300, 100), blast(1000, 1000), blast(100, 100)}, [3]int{90, 85, -5}},
	} {
		want := slices.Clone(l)
		for i, h := range r.healths {
			want[i].Health = h
		}
		checkBlasts(t, l, r.blasts, want)
	}
	checkBlasts(t, nil, nil, nil)
	checkBlasts(t, list(), []api.Cross{blast(0, 0)}, nil)
	// Lists that are not sorted: all who have a number are asked by themselves.
	checkBlasts(t, list(player(3, 0, 0, 50), gem(1, 0, 0), player(1, 0, 0, 50), player(1, 128, 0, 60), player(1, 129, 0, 70)), []api.Cross{blast(0, 0)}, list(player(3, 0, 0, 40), gem(1, 0, 0), player(1, 0, 0, 40), player(1, 128, 0, 50), player(1, 129, 0, 70)))
}

// TestBlastsMessages: messages of another kind do nothing, alone and among blasts; of a blast only X and Y count.
func TestBlastsMessages(t *testing.T) {
	l, once, twice := list(player(1, 5, 5, 50)), list(player(1, 5, 5, 40)), list(player(1, 5, 5, 30))
	for _, kind := range append(otherKinds(), api.Handoff, 3) {
		other := blast(5, 5)
		other.Kind = kind
		checkBlasts(t, l, []api.Cross{other}, l)
		checkBlasts(t, l, []api.Cross{other, blast(5, 5)}, once)
		checkBlasts(t, l, []api.Cross{blast(5, 5), other, blast(5, 5), other}, twice)
		other.Entity = player(2, 5, 5, 100)
		checkBlasts(t, l, []api.Cross{other}, l)
	}
	for _, v := range []int{0, -1, 10_000, math.MaxInt, math.MinInt} {
		odd := api.Cross{Kind: api.Blast, From: v, To: v, Frame: v, X: 5, Y: 5, Entity: player(v, v, v, v)}
		checkBlasts(t, l, []api.Cross{odd}, once)
		odd.X, odd.Y, odd.Entity.X, odd.Entity.Y = 500, 5, 5, 5
		checkBlasts(t, l, []api.Cross{odd}, l)
	}
}

func TestBlastsHealth(t *testing.T) {
	for _, r := range []struct{ health, once, twice int }{
		{100, 90, 80}, {20, 10, 0}, {10, 0, -10}, {9, -1, -11}, {0, -10, -20}, {500, 490, 480},
		{bound, bound - 10, bound - 20}, {bound + 1, bound - 10, bound - 20}, {math.MaxInt, bound - 10, bound - 20},
		{-bound + 20, -bound + 10, -bound}, {-bound + 15, -bound + 5, -bound}, {-bound + 10, -bound, -bound}, {-bound, -bound, -bound}, {-bound - 1, -bound, -bound}, {math.MinInt, -bound, -bound},
	} {
		l := list(player(1, 5, 5, r.health))
		checkBlasts(t, l, []api.Cross{blast(500, 5), {}}, l)
		checkBlasts(t, l, []api.Cross{blast(5, 5)}, list(player(1, 5, 5, r.once)))
		checkBlasts(t, l, []api.Cross{blast(5, 5), blast(6, 6)}, list(player(1, 5, 5, r.twice)))
	}
}

func TestFallen(t *testing.T) {
	checkFallen(t, nil)
	checkFallen(t, list())
	for _, health := range []int{1, 2, 100, 101, 1 << 31, 1 << 32, math.MaxInt} {
		checkFallen(t, list(player(1, 5, 5, health)))
	}
	for _, health := range []int{0, -1, -2, -20, -1 << 31, -1 << 32, math.MinInt + 1, math.MinInt} {
		checkFallen(t, list(player(1, 5, 5, health)), 1)
		checkFallen(t, list(player(1, 5, 5, 9), player(2, -5, 99999, health), player(3, 5, 5, 1)), 2)
		// Things don't fall, whatever Health they have.
		for _, e := range list(shot(1000, 5, 5, 1), gem(1000, 5, 5), api.Entity{}) {
			e.Health = health
			checkFallen(t, list(e))
			checkFallen(t, list(e, player(2, 5, 5, 0), e), 2)
		}
	}
	checkFallen(t, list(player(1, 0, 0, 0), player(2, 0, 0, 5), player(3, 0, 0, -5), shot(1000, 0, 0, 1), player(4, 0, 0, 0)), 1, 3, 4)
	// In the order of the list, and each one by itself.
	checkFallen(t, list(player(5, 0, 0, 0), player(1, 0, 0, 0), player(5, 0, 0, -1), player(1, 0, 0, 1), player(math.MaxInt, 0, 0, 0), player(math.MinInt, 0, 0, 0), player(0, 0, 0, 0)), 5, 1, 5, math.MaxInt, math.MinInt, 0)
}

// palette is entities near to each other, and beyond each reach.
func palette() []api.Entity {
	return list(player(1, 0, 0, 90), player(2, 20, 0, 10), player(3, 0, -30, 20), shot(1000, 0, 0, 1), shot(1001, 10, 0, 2), shot(1002, 0, -20, 3), gem(1003, 0, 0), gem(1004, 40, 0))
}

// eachList goes through all lists of up to four of the palette, also those that are not sorted.
func eachList(check func(l []api.Entity)) {
	lists := [][]api.Entity{nil}
	for range 4 {
		var longer [][]api.Entity
		for _, l := range lists {
			check(l)
			for _, e := range palette() {
				longer = append(longer, append(slices.Clip(l), e))
			}
		}
		lists = longer
	}
	for _, l := range lists {
		check(l)
	}
}

// metBy is the number of the first player of l that the thing e of the palette meets, counted here by itself; 0, if it meets none.
func metBy(l []api.Entity, e api.Entity) int {
	reach := 24
	if e.Kind == api.Gem {
		reach = 32
	}
	for _, p := range l {
		if p.Kind == api.Player && (e.Kind == api.Gem || p.Id != e.Owner) && far(p.X-e.X, p.Y-e.Y) <= reach {
			return p.Id
		}
	}
	return 0
}

// after is l behind its things of that kind: each player's health counts how many met it; where a number is there twice, the first one is met.
func after(l []api.Entity, kind int, turn func(health, times int) int) []api.Entity {
	var out []api.Entity
	seen := map[int]int{}
	for _, e := range l {
		switch {
		case e.Kind == kind && metBy(l, e) != 0:
			continue
		case e.Kind == api.Player:
			if seen[e.Id]++; seen[e.Id] == 1 {
				e.Health = turn(e.Health, times(l, kind, e.Id))
			}
		}
		out = append(out, e)
	}
	return out
}

// times is how many things of that kind meet the player id.
func times(l []api.Entity, kind, id int) int {
	n := 0
	for _, e := range l {
		if e.Kind == kind && metBy(l, e) == id {
			n++
		}
	}
	return n
}

// TestAll: all calls of many lists, against what is counted here.
func TestAll(t *testing.T) {
	eachList(func(l []api.Entity) {
		checkShots(t, l, after(l, api.Shot, func(health, times int) int { return health - 20*times }))
		checkGems(t, l, after(l, api.Gem, func(health, times int) int {
			if times == 0 {
				return health
			}
			return min(100, health+25*times)
		}))
		checkBlasts(t, l, []api.Cross{blast(120, 0), {}, blast(0, 105)}, blown(l))
	})
}

// blown is l of the palette behind blasts at 120, 0 and at 0, 105: the third player is beyond the second one.
func blown(l []api.Entity) []api.Entity {
	out := slices.Clone(l)
	for i, e := range out {
		if e.Kind == api.Player && e.Id == 3 {
			out[i].Health -= 10
		} else if e.Kind == api.Player {
			out[i].Health -= 20
		}
	}
	return out
}

// TestOnlyPlayers: what follows: who is there behind a call is as it was, but for a player's Health.
func TestOnlyPlayers(t *testing.T) {
	eachList(func(l []api.Entity) {
		for name, got := range map[string][]api.Entity{"Shots": Shots(l), "Gems": Gems(l), "Blasts": Blasts(l, blast(0, 0), blast(9, 9))} {
			left := l
			for _, e := range got {
				at := slices.IndexFunc(left, func(was api.Entity) bool {
					if was.Kind == api.Player {
						was.Health = e.Health
					}
					return was == e
				})
				if at < 0 {
					t.Errorf("what follows: %s of %+v: %+v was not there so, or not in that order", name, l, e)
					break
				}
				left = left[at+1:]
			}
		}
	})
}
