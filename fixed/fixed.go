// Package fixed is layer 1: whole numbers that stay within bounds: see shared/doc/01-fixed.md.
package fixed

import (
	"joust/api"
)

// The bounds lie alike on both sides of 0, so that a number within them has its negative there too.
const (
	most  = 1<<31 - 1
	least = -most
)

// Held is v, or the bound that v is beyond.
func Held(v int) int { return Clamp(v, least, most) }

// Add is the sum of l from 0 on, held behind each number: what a bound cut off does not come back.
func Add(l ...int) int {
	sum := 0
	for _, v := range l {
		sum = Held(sum + Held(v))
	}
	return sum
}

// Sub is a less b; both are held first, so that the difference can't go round.
func Sub(a, b int) int { return Held(Held(a) - Held(b)) }

// Scale is v times num by den, towards 0; ErrArg, if den is 0.
func Scale(v, num, den int) (int, api.Errno) {
	if den == 0 {
		return 0, api.ErrArg
	}
	// The product of two held numbers is below 2^62, so only what comes out needs to be held.
	return Held(Held(v) * Held(num) / Held(den)), api.OK
}

// Clamp is v, or lo, or hi; where lo is above hi, lo is asked first.
func Clamp(v, lo, hi int) int {
	if v < lo {
		return lo
	}
	if v > hi {
		return hi
	}
	return v
}

// Far is the greater one of the two distances, along x and along y.
func Far(ax, ay, bx, by int) int { return max(apart(ax, bx), apart(ay, by)) }

// apart is how far a is from b.
func apart(a, b int) int {
	d := Sub(a, b)
	if d < 0 {
		return -d
	}
	return d
}
