package check

import (
	"slices"
	"testing"
)

// The sums that are wanted here were counted outside this program, in numbers without end.

// none is the sum of nothing.
const none = 0x243f6a8885a308d3

// summed is bytes and their sum.
type summed struct {
	name string
	b    []byte
	sum  uint64
}

// rising is n bytes, each of them step above the one ahead of it, round by 251.
func rising(n, step int) []byte {
	b := make([]byte, n)
	for i := range b {
		b[i] = byte(i * step % 251)
	}
	return b
}

// everyByte is all bytes that there are, from 0 on.
func everyByte() []byte {
	b := make([]byte, 256)
	for i := range b {
		b[i] = byte(i)
	}
	return b
}

// sums is some bytes with their sums.
func sums() []summed {
	return []summed{
		{"nil", nil, none}, {"nothing", []byte{}, none},
		{"0", []byte{0}, 0x752d642b11a79a34}, {"1", []byte{1}, 0x1364dde490f21649}, {"128", []byte{128}, 0x90ea40eab6e5a4b4}, {"255", []byte{255}, 0x73188b056aa842b7},
		{"0 0", []byte{0, 0}, 0x7b139ba5052d91a6}, {"0 0 0", []byte{0, 0, 0}, 0x7bd0afbcde0898fb},
		{"0 1", []byte{0, 1}, 0x194b155e84780dbb}, {"1 0", []byte{1, 0}, 0xf8ff8b4cd6baf7ca},
		{"abc", []byte("abc"), 0x362499e3f3364912}, {"cba", []byte("cba"), 0x84f3a9741ed207cb}, {"joust", []byte("joust"), 0x80f63c1bfb9d9572},
		{"255, eight times", slices.Repeat([]byte{255}, 8), 0x28d517bec9d4fd9d}, {"255, nine times", slices.Repeat([]byte{255}, 9), 0x75cfdf64a7fd4e62},
		{"every byte", everyByte(), 0x0f2b2642236b88ea}, {"a thousand", rising(1000, 7), 0x888f52b265b4fcba}, {"60,000 of 0", make([]byte, 60000), 0xf9d38fd03dc5cdb9},
	}
}

func TestSum(t *testing.T) {
	for _, r := range sums() {
		for range 2 {
			if got := Sum(r.b); got != r.sum {
				t.Errorf("P13.1: Sum of %s: %#x; want %#x", r.name, got, r.sum)
			}
		}
	}
}

func TestSumOfNoBytes(t *testing.T) {
	for i, parts := range [][][]byte{nil, {}, {nil}, {{}}, {nil, nil}, {{}, nil, {}}, make([][]byte, 1000)} {
		if got := Sum(parts...); got != none {
			t.Errorf("P13.1: Sum of the nothing %d: %#x; want %#x", i, got, uint64(none))
		}
	}
}

// inParts asks that the Sum of parts is want.
func inParts(t *testing.T, what string, want uint64, parts ...[]byte) {
	t.Helper()
	if got := Sum(parts...); got != want {
		t.Errorf("P13.1: Sum of %s in %d parts: %#x; want %#x", what, len(parts), got, want)
	}
}

func TestSumInParts(t *testing.T) {
	for _, r := range sums() {
		if len(r.b) > 300 {
			inParts(t, r.name, r.sum, r.b[:1], r.b[1:299], nil, r.b[299:])
			continue
		}
		for i := range len(r.b) + 1 {
			a, b := r.b[:i], r.b[i:]
			inParts(t, r.name, r.sum, a, b)
			inParts(t, r.name, r.sum, nil, a, []byte{}, nil, b, nil)
			for j := range len(b) + 1 {
				inParts(t, r.name, r.sum, a, b[:j], b[j:])
			}
		}
		var each [][]byte
		for i := range r.b {
			each = append(each, r.b[i:i+1])
		}
		inParts(t, r.name, r.sum, each...)
	}
}

func TestSumGoesByTheOrderOfParts(t *testing.T) {
	zero, one := []byte{0}, []byte{1}
	inParts(t, "0 1", 0x194b155e84780dbb, zero, one)
	inParts(t, "1 0", 0xf8ff8b4cd6baf7ca, one, zero)
	inParts(t, "0 0", 0x7b139ba5052d91a6, zero, zero)
	inParts(t, "joust", 0x80f63c1bfb9d9572, []byte("jo"), []byte("us"), []byte("t"))
}

// TestSumOfOneByteTurned: bytes that are alike but for one never have the same sum.
func TestSumOfOneByteTurned(t *testing.T) {
	for _, n := range []int{1, 2, 7, 8, 9, 40, 300} {
		b := rising(n, 7)
		want := Sum(b)
		for at := range b {
			for by := 1; by <= 255; by++ {
				b[at] ^= byte(by)
				if Sum(b) == want {
					t.Errorf("P13.1: of %d bytes the one at %d turned by %d: the same sum", n, at, by)
				}
				b[at] ^= byte(by)
			}
		}
	}
}

func TestPartsStay(t *testing.T) {
	whole := rising(40, 7)
	parts := [][]byte{whole[:3], nil, whole[10:20], {}, whole[5:6], {1, 2, 3}}
	b, l := slices.Clone(whole), slices.Clone(parts)
	want := Sum(slices.Concat(parts...))
	if got := Sum(parts[:5]...); got != Sum(slices.Concat(parts[:5]...)) {
		t.Errorf("P13.1: Sum of parts with room behind their ends: %#x", got)
	}
	if got := Sum(parts...); got != want {
		t.Errorf("P13.1: Sum of parts of one memory: %#x; want %#x", got, want)
	}
	if !slices.Equal(whole, b) || !slices.EqualFunc(parts, l, slices.Equal) {
		t.Errorf("R3: what was handed in, %v, is %v", l, parts)
	}
}
