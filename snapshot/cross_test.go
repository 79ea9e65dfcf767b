package snapshot

import (
	"slices"
	"testing"

	"joust/api"
	"joust/cross"
	"joust/grid"
)

// packed is messages in an arena of 2 columns and 2 rows, and their bytes, written out.
type packed struct {
	name string
	l    []api.Cross
	b    []byte
}

func ordinary() []packed {
	a := blast(0, 0, 6, 5, 7)
	b := hand(1, 0, 6, api.Entity{Id: 2, Kind: api.Player, X: 9, Y: 8, Health: 100})
	c := hand(2, 3, 0, api.Entity{Id: 1000, Kind: api.Shot, X: 1024, Y: 2047, Vx: 160, Vy: -160, Health: 1, Age: 12, Owner: 6})
	d := hand(0, 1, 9999, api.Entity{Id: 1<<31 - 1, Kind: api.Gem, X: 1100, Y: 64, Health: 1})
	e := hand(3, 1, 63, api.Entity{Id: 6, Kind: api.Player, X: 1500, Y: 1, Vx: -64, Vy: 64, Health: 1, Age: 6})
	ofA := []byte{4, 0, 0, 12, 10, 14}
	ofB := []byte{2, 2, 0, 12, 4, 2, 18, 16, 0, 0, 200, 1, 0, 0}
	ofC := []byte{2, 4, 6, 0, 208, 15, 4, 128, 16, 254, 31, 192, 2, 191, 2, 2, 24, 12}
	ofD := []byte{2, 0, 2, 158, 156, 1, 254, 255, 255, 255, 15, 6, 152, 17, 128, 1, 0, 0, 2, 0, 0}
	ofE := []byte{2, 6, 2, 126, 12, 2, 184, 23, 2, 127, 128, 1, 2, 12, 0}
	all := func(lists ...[]byte) []byte { return slices.Concat(lists...) }
	return []packed{
		{"none", nil, []byte{0}},
		{"a Blast", []api.Cross{a}, all([]byte{2}, ofA)},
		{"a Handoff of a player", []api.Cross{b}, all([]byte{2}, ofB)},
		{"a Handoff of a shot", []api.Cross{c}, all([]byte{2}, ofC)},
		{"a Handoff of a gem", []api.Cross{d}, all([]byte{2}, ofD)},
		{"a Handoff of a player that steers", []api.Cross{e}, all([]byte{2}, ofE)},
		{"one of each", []api.Cross{a, b, c, d, e}, all([]byte{10}, ofA, ofB, ofC, ofD, ofE)},
		{"one of each, the other way round", []api.Cross{e, d, c, b, a}, all([]byte{10}, ofE, ofD, ofC, ofB, ofA)},
		{"those that are alike", []api.Cross{a, a, b, b, a}, all([]byte{10}, ofA, ofA, ofB, ofB, ofA)},
		{"more than one byte of them", slices.Repeat([]api.Cross{a}, 64), all([]byte{128, 1}, slices.Repeat(ofA, 64))},
	}
}

// wrongMessages is such as may not go in an arena of 2 columns and 2 rows, but have a Kind.
func wrongMessages() []api.Cross {
	at := func(change func(e *api.Entity)) api.Cross {
		c := hand(1, 0, 6, player(2, 9, 8))
		change(&c.Entity)
		return c
	}
	l := []api.Cross{
		blast(-1, 0, 6, 5, 7), blast(4, 0, 6, 5, 7), blast(0, -1, 6, 5, 7), blast(0, 4, 6, 5, 7), blast(0, 0, -1, 5, 7), blast(0, 0, 10000, 5, 7),
		blast(0, 0, 6, -1, 7), blast(0, 0, 6, 2048, 7), blast(0, 0, 6, 5, -1), blast(0, 0, 6, 5, 2048),
		hand(0, 0, 6, player(2, 9, 8)), hand(1, 2, 6, player(2, 9, 8)), hand(4, 0, 6, player(2, 9, 8)), hand(1, 0, -1, player(2, 9, 8)), hand(1, 0, 10000, gem(1000, 9, 8)),
		at(func(e *api.Entity) { *e = api.Entity{} }), at(func(e *api.Entity) { e.Id = 0 }), at(func(e *api.Entity) { e.Id = 7 }), at(func(e *api.Entity) { e.X = 1024 }), at(func(e *api.Entity) { e.Y = -1 }),
		at(func(e *api.Entity) { e.Vx = 65 }), at(func(e *api.Entity) { e.Vy = -65 }), at(func(e *api.Entity) { e.Health = 0 }), at(func(e *api.Entity) { e.Health = 101 }), at(func(e *api.Entity) { e.Age = 7 }), at(func(e *api.Entity) { e.Owner = 1 }),
		at(func(e *api.Entity) { *e = gem(999, 9, 8) }), at(func(e *api.Entity) { *e = gem(1<<31, 9, 8) }), at(func(e *api.Entity) { *e = shot(1000, 9, 8); e.Owner = 7 }),
	}
	for _, kind := range otherKinds() {
		l = append(l, at(func(e *api.Entity) { e.Kind = kind }))
	}
	return l
}

// neverMessages is such as may not go, of which what is wrong is not even written.
func neverMessages() []api.Cross {
	b := blast(0, 0, 6, 5, 7)
	b.Entity.Id = 1
	x, y := hand(1, 0, 6, player(2, 9, 8)), hand(1, 0, 6, player(2, 9, 8))
	x.X, y.Y = 9, 1
	l := []api.Cross{{}, b, x, y}
	for _, kind := range append(otherKinds(), 3) {
		b := blast(0, 0, 6, 5, 7)
		b.Kind = kind
		l = append(l, b)
	}
	return l
}

// checkTakeCross asks for TakeCross of b.
func checkTakeCross(t *testing.T, g grid.Grid, b []byte, want []api.Cross, wrong api.Errno) {
	t.Helper()
	l, e := TakeCross(g, b)
	if e != wrong || !slices.Equal(l, want) {
		t.Errorf("P12.1: TakeCross of %v: %d messages, error %d; want %d, error %d", b, len(l), e, len(want), wrong)
	}
}

func TestPackCross(t *testing.T) {
	g := gridOf(t, 2, 2)
	for _, p := range ordinary() {
		b, e := PackCross(g, p.l...)
		if e != api.OK || !slices.Equal(b, p.b) {
			t.Errorf("P12.1: PackCross of %s: %v, error %d; want %v", p.name, b, e, p.b)
		}
		if plain := numbers(ofMessages(p.l...)...); !slices.Equal(b, plain) {
			t.Errorf("P12.1: PackCross of %s: %v; by numbers %v", p.name, b, plain)
		}
		checkTakeCross(t, g, p.b, p.l, api.OK)
	}
	if b, e := PackCross(g, []api.Cross{}...); e != api.OK || !slices.Equal(b, []byte{0}) {
		t.Errorf("P12.1: PackCross of an empty list: %v, error %d", b, e)
	}
}

// TestPackCrossRefuses: one that is not right is enough, wherever it stands.
func TestPackCrossRefuses(t *testing.T) {
	g := gridOf(t, 2, 2)
	right := []api.Cross{blast(0, 0, 6, 5, 7), hand(1, 0, 6, player(2, 9, 8)), hand(1, 0, 6, gem(1000, 9, 8))}
	for _, c := range append(wrongMessages(), neverMessages()...) {
		if cross.Right(g, c) {
			t.Fatalf("%+v is right", c)
		}
		for _, l := range [][]api.Cross{{c}, {c, c}, append([]api.Cross{c}, right...), append(slices.Clone(right), c), slices.Insert(slices.Clone(right), 1, c)} {
			if b, e := PackCross(g, l...); e != api.ErrForm || len(b) != 0 {
				t.Errorf("P12.1: PackCross of %d with %+v: %v, error %d; want 4", len(l), c, b, e)
			}
		}
	}
}

// TestTakeCrossThatEnds: ahead of each number, and within each.
func TestTakeCrossThatEnds(t *testing.T) {
	g := gridOf(t, 2, 2)
	checkTakeCross(t, g, nil, nil, api.ErrShort)
	checkTakeCross(t, g, []byte{}, nil, api.ErrShort)
	for _, p := range ordinary() {
		for n := range p.b {
			checkTakeCross(t, g, p.b[:n], nil, api.ErrShort)
		}
	}
}

// TestTakeCrossHowMany: from 0 to 1,000, and as many as there are.
func TestTakeCrossHowMany(t *testing.T) {
	g := gridOf(t, 2, 2)
	one := ofMessage(blast(0, 0, 6, 5, 7))
	some := func(told, n int) []byte { return numbers(append([]int{told}, slices.Repeat(one, n)...)...) }
	for _, r := range []struct {
		told, n int
		want    api.Errno
	}{
		{0, 0, api.OK}, {1, 1, api.OK}, {999, 999, api.OK}, {1000, 1000, api.OK},
		{1001, 1001, api.ErrForm}, {1001, 1000, api.ErrForm}, {1001, 0, api.ErrForm}, {1002, 1002, api.ErrForm}, {2000, 2000, api.ErrForm}, {1<<62 - 1, 1, api.ErrForm}, {1 << 32, 0, api.ErrForm}, {1<<32 + 1, 1, api.ErrForm},
		{-1, 0, api.ErrForm}, {-1, 1, api.ErrForm}, {-2, 2, api.ErrForm}, {-1000, 0, api.ErrForm}, {-1 << 62, 0, api.ErrForm}, {-1 << 32, 0, api.ErrForm},
		{1, 0, api.ErrShort}, {2, 1, api.ErrShort}, {1000, 0, api.ErrShort}, {1000, 999, api.ErrShort},
		{0, 1, api.ErrForm}, {1, 2, api.ErrForm}, {1000, 1001, api.ErrForm},
	} {
		var want []api.Cross
		if r.want == api.OK {
			want = slices.Repeat([]api.Cross{blast(0, 0, 6, 5, 7)}, r.n)
		}
		if l, e := TakeCross(g, some(r.told, r.n)); e != r.want || !slices.Equal(l, want) {
			t.Errorf("P12.1: TakeCross of %d, told as %d: %d messages, error %d; want %d", r.n, r.told, len(l), e, r.want)
		}
	}
}

// TestPackCrossOfTooMany: how many there are is not asked of what is packed.
func TestPackCrossOfTooMany(t *testing.T) {
	g := gridOf(t, 2, 2)
	for _, n := range []int{1000, 1001, 3000} {
		l := slices.Repeat([]api.Cross{hand(1, 0, 6, gem(1000, 9, 8))}, n)
		b, e := PackCross(g, l...)
		if e != api.OK || !slices.Equal(b, numbers(ofMessages(l...)...)) {
			t.Errorf("P12.1: PackCross of %d: %d bytes, error %d", n, len(b), e)
		}
		if n > 1000 {
			checkTakeCross(t, g, b, nil, api.ErrForm)
		}
	}
}

// TestTakeCrossOfNoKind: it is refused behind its Frame, and not ahead of that.
func TestTakeCrossOfNoKind(t *testing.T) {
	g := gridOf(t, 2, 2)
	right := []api.Cross{blast(0, 0, 6, 5, 7), hand(1, 0, 6, player(2, 9, 8))}
	for _, kind := range append(otherKinds(), 3) {
		for n := range 3 {
			begin := append([]int{3}, ofMessages(right[:min(n, 2)]...)[1:]...)
			ahead := []int{kind, 0, 0, 6}
			for i := range ahead {
				checkTakeCross(t, g, numbers(append(slices.Clone(begin), ahead[:i]...)...), nil, api.ErrShort)
			}
			b := numbers(append(slices.Clone(begin), ahead...)...)
			checkTakeCross(t, g, b, nil, api.ErrForm)
			for _, behind := range [][]byte{{10}, {10, 14}, {128}, {128, 128}, {128, 0}, numbers(ofEntity(player(2, 9, 8))...), numbers(ofMessages(right...)...)} {
				checkTakeCross(t, g, slices.Concat(b, behind), nil, api.ErrForm)
			}
			b[len(b)-1] += 128
			checkTakeCross(t, g, b, nil, api.ErrShort)
		}
	}
}

// TestTakeCrossOfWhatIsNotRight: it is read whole, so that what ends behind it, ends too early.
func TestTakeCrossOfWhatIsNotRight(t *testing.T) {
	g := gridOf(t, 2, 2)
	a, z := blast(0, 0, 6, 5, 7), hand(1, 0, 6, gem(1000, 9, 8))
	for _, c := range wrongMessages() {
		for _, l := range [][]api.Cross{{c}, {c, a}, {a, c}, {a, z, c}, {c, z, a}, {c, c}} {
			b := numbers(ofMessages(l...)...)
			checkTakeCross(t, g, b, nil, api.ErrForm)
			checkTakeCross(t, g, append(slices.Clone(b), 0), nil, api.ErrForm)
			for n := range b {
				checkTakeCross(t, g, b[:n], nil, api.ErrShort)
			}
		}
	}
}

// TestTakeCrossOfAnotherNumber: each number in more bytes than it needs, or in too many.
func TestTakeCrossOfAnotherNumber(t *testing.T) {
	g := gridOf(t, 2, 2)
	for _, p := range ordinary() {
		all := ofMessages(p.l...)
		for i, v := range all {
			ahead, behind := numbers(all[:i]...), numbers(all[i+1:]...)
			for _, other := range [][]byte{longer(number(v)), longer(longer(number(v))), append(slices.Repeat([]byte{128}, 9), 1)} {
				checkTakeCross(t, g, slices.Concat(ahead, other, behind), nil, api.ErrForm)
				checkTakeCross(t, g, slices.Concat(ahead, other), nil, api.ErrForm)
			}
			checkTakeCross(t, g, slices.Concat(ahead, slices.Repeat([]byte{128}, 12)), nil, api.ErrShort)
		}
	}
}

func TestTakeCrossWithSomethingLeft(t *testing.T) {
	g := gridOf(t, 2, 2)
	for _, p := range ordinary() {
		for _, behind := range [][]byte{{0}, {1}, {128}, {128, 0}, {255, 255}, p.b} {
			checkTakeCross(t, g, slices.Concat(p.b, behind), nil, api.ErrForm)
		}
	}
}

// TestCrossInNoArena: nothing goes where New does not tell the grid; where nothing goes, nothing is wrong.
func TestCrossInNoArena(t *testing.T) {
	for _, g := range untold() {
		if b, e := PackCross(g); e != api.OK || !slices.Equal(b, []byte{0}) {
			t.Errorf("P12.1: PackCross of none in no arena: %v, error %d", b, e)
		}
		checkTakeCross(t, g, []byte{0}, nil, api.OK)
		for _, p := range ordinary()[1:] {
			if b, e := PackCross(g, p.l...); e != api.ErrForm || len(b) != 0 {
				t.Errorf("P12.1: PackCross of %s in no arena: %v, error %d", p.name, b, e)
			}
			checkTakeCross(t, g, p.b, nil, api.ErrForm)
			checkTakeCross(t, g, p.b[:len(p.b)-1], nil, api.ErrShort)
		}
	}
}

// TestCrossInOtherArenas: what is right in one arena may not be in another one.
func TestCrossInOtherArenas(t *testing.T) {
	c := blast(0, 1, 6, 1024, 7)
	b := numbers(ofMessages(c)...)
	checkTakeCross(t, gridOf(t, 2, 1), b, []api.Cross{c}, api.OK)
	checkTakeCross(t, gridOf(t, 1, 2), b, nil, api.ErrForm)
	checkTakeCross(t, gridOf(t, 1, 1), b, nil, api.ErrForm)
}

// TestCrossStays: what came in is not changed, and what comes out is new (R3).
func TestCrossStays(t *testing.T) {
	g := gridOf(t, 2, 2)
	for _, p := range ordinary() {
		l, all := roomy(p.l, api.Cross{Kind: 9})
		was := slices.Clone(all)
		first, _ := PackCross(g, l...)
		second, _ := PackCross(g, l...)
		overwrite(first, 99)
		if !slices.Equal(all, was) || !slices.Equal(second, p.b) {
			t.Errorf("R3: PackCross of %s: the list became %+v, another answer %v", p.name, all, second)
		}
		overwrite(all, api.Cross{Kind: 9})
		if !slices.Equal(second, p.b) {
			t.Errorf("R3: PackCross of %s: an answer became %v", p.name, second)
		}
		b, whole := roomy(p.b, 2)
		given := slices.Clone(whole)
		one, _ := TakeCross(g, b)
		two, _ := TakeCross(g, b)
		overwrite(one, api.Cross{Kind: 9})
		if !slices.Equal(whole, given) || !slices.Equal(two, p.l) {
			t.Errorf("R3: TakeCross of %s: the bytes became %v, another answer %+v", p.name, whole, two)
		}
		overwrite(whole, 3)
		if !slices.Equal(two, p.l) {
			t.Errorf("R3: TakeCross of %s: an answer became %+v", p.name, two)
		}
	}
}
