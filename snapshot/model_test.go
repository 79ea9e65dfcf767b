package snapshot

import (
	"slices"
	"testing"

	"joust/api"
	"joust/chance"
	"joust/cross"
	"joust/grid"
	"joust/region"
)

// numbersOf is all numbers of b, up to the first one that is none, and what is told to whom asks for one more; whole tells whether they are all that is in b.
func numbersOf(b []byte) (l []int, stop api.Errno, whole bool) {
	for len(b) > 0 {
		n := slices.IndexFunc(b, func(c byte) bool { return c < 128 }) + 1
		if n == 0 {
			return l, api.ErrShort, false
		}
		if n > 9 || n > 1 && b[n-1] == 0 {
			return l, api.ErrForm, false
		}
		u := 0
		for i := n - 1; i >= 0; i-- {
			u = u*128 + int(b[i]%128)
		}
		if u%2 == 1 {
			u = -u - 1
		}
		l, b = append(l, u/2), b[n:]
	}
	return l, api.ErrShort, true
}

// model takes bytes by the chapter's words, from the list of all their numbers.
type model struct {
	l     []int
	stop  api.Errno
	whole bool
}

// modelOf is a model of b.
func modelOf(b []byte) *model {
	l, stop, whole := numbersOf(b)
	return &model{l, stop, whole}
}

// take is the next n numbers; where there are fewer, all ends by a panic with what is told then.
func (m *model) take(n int) []int {
	if n > len(m.l) {
		panic(m.stop)
	}
	l := m.l[:n]
	m.l = m.l[n:]
	return l
}

// some is how many there are of a list.
func (m *model) some() int {
	n := m.take(1)[0]
	if n < 0 || n > 1000 {
		panic(api.ErrForm)
	}
	return n
}

func (m *model) entities(n int) []api.Entity {
	var out []api.Entity
	for range n {
		l := m.take(9)
		out = append(out, api.Entity{Id: l[0], Kind: l[1], X: l[2], Y: l[3], Vx: l[4], Vy: l[5], Health: l[6], Age: l[7], Owner: l[8]})
	}
	return out
}

func (m *model) messages() []api.Cross {
	var out []api.Cross
	for range m.some() {
		l := m.take(4)
		c := api.Cross{Kind: l[0], From: l[1], To: l[2], Frame: l[3]}
		switch c.Kind {
		case api.Handoff:
			c.Entity = m.entities(1)[0]
		case api.Blast:
			l = m.take(2)
			c.X, c.Y = l[0], l[1]
		default:
			panic(api.ErrForm)
		}
		out = append(out, c)
	}
	return out
}

// caught is what ask ended by; OK, if it ended by itself, nothing was left, and it told true.
func (m *model) caught(ask func() bool) (e api.Errno) {
	defer func() {
		if no := recover(); no != nil {
			e = no.(api.Errno)
		}
	}()
	if !ask() || len(m.l) > 0 || !m.whole {
		return api.ErrForm
	}
	return api.OK
}

// modelMay is May by the chapter's words: each later one is held against each earlier one.
func modelMay(g grid.Grid, r int, b api.Base) bool {
	for i, c := range b.Inbox {
		if !cross.Right(g, c) || c.To != r || c.Frame != b.State.Frame-1 {
			return false
		}
		for _, earlier := range b.Inbox[:i] {
			if c.From < earlier.From || c.From == earlier.From && cross.Less(c, earlier) {
				return false
			}
		}
	}
	return region.Right(g, r, b.State)
}

// modelRight: may all of l go?
func modelRight(g grid.Grid, l []api.Cross) bool {
	for _, c := range l {
		if !cross.Right(g, c) {
			return false
		}
	}
	return true
}

// checkModel asks for both takes of b, and that what was taken is packed to b again; it tells what the model refused both by.
func checkModel(t *testing.T, g grid.Grid, r int, b []byte) (noCross, noBase api.Errno) {
	t.Helper()
	var l []api.Cross
	m := modelOf(b)
	noCross = m.caught(func() bool {
		l = m.messages()
		return modelRight(g, l)
	})
	if noCross != api.OK {
		l = nil
	}
	checkTakeCross(t, g, b, l, noCross)
	if again, e := PackCross(g, l...); noCross == api.OK && (e != api.OK || !slices.Equal(again, b)) {
		t.Errorf("P12.1: PackCross of what TakeCross told of %v: %v, error %d", b, again, e)
	}
	var x api.Base
	m = modelOf(b)
	noBase = m.caught(func() bool {
		x.State.Frame = m.take(1)[0]
		x.State.Entities = m.entities(m.some())
		x.Inbox = m.messages()
		return modelMay(g, r, x)
	})
	if noBase != api.OK {
		x = api.Base{}
	}
	checkTake(t, g, r, b, x, noBase)
	if again, e := Pack(g, r, x); noBase == api.OK && (e != api.OK || !slices.Equal(again, b)) {
		t.Errorf("P12.2: Pack of what Take told of %v: %v, error %d", b, again, e)
	}
	return noCross, noBase
}

// others is b with one byte turned, left out, or doubled, and cut off, at each place.
func others(b []byte) [][]byte {
	var l [][]byte
	for i, c := range b {
		for _, by := range []byte{1, 2, 4, 6, 128, 255, c ^ 255, c} {
			turned := slices.Clone(b)
			turned[i] ^= by
			l = append(l, turned)
		}
		l = append(l, b[:i], slices.Delete(slices.Clone(b), i, i+1), slices.Insert(slices.Clone(b), i, c), slices.Insert(slices.Clone(b), i, 0))
	}
	return l
}

// TestOtherBytes: what is near to what was packed is told as the words tell it; all that there is to tell is told of some of it.
func TestOtherBytes(t *testing.T) {
	g := gridOf(t, 2, 2)
	var crosses, bases [6]int
	all := [][]byte{numbers(ofBase(full())...)}
	for _, p := range ordinary()[:8] {
		all = append(all, p.b)
	}
	for _, n := range right()[:9] {
		all = append(all, numbers(ofBase(n.b)...))
	}
	for _, b := range all {
		for _, other := range append(others(b), b) {
			c, x := checkModel(t, g, 1, other)
			crosses[c]++
			bases[x]++
		}
	}
	for _, e := range []api.Errno{api.OK, api.ErrForm, api.ErrShort} {
		if crosses[e] < 50 || bases[e] < 50 {
			t.Errorf("of all bytes just %d and %d are told as %d", crosses[e], bases[e], e)
		}
	}
}

// TestAllFewBytes: all lists of up to five bytes, of some.
func TestAllFewBytes(t *testing.T) {
	g := gridOf(t, 2, 2)
	var walk func(b []byte)
	walk = func(b []byte) {
		checkModel(t, g, 0, b)
		if len(b) < 5 {
			for _, c := range []byte{0, 1, 2, 4, 6, 128, 255} {
				walk(append(slices.Clone(b), c))
			}
		}
	}
	walk(nil)
}

// TestAnyNumbers: lists of numbers that chance told, behind which bytes end.
func TestAnyNumbers(t *testing.T) {
	g := gridOf(t, 2, 2)
	some := []int{0, 0, 0, 1, 1, 2, 2, 3, 4, 5, 6, 7, 100, 1000, 1030, 160, -1, -160, 1 << 31}
	for seed := range 20000 {
		var l []int
		for i := range chance.Below(24, uint64(seed), 0) {
			l = append(l, some[chance.Below(len(some), uint64(seed), 1, i)])
		}
		checkModel(t, g, seed%4, numbers(l...))
	}
}

// TestBasesOfWorlds: where regions truly begin they may begin; it is packed, and taken again, as that region alone.
func TestBasesOfWorlds(t *testing.T) {
	hands, blasts, several := 0, 0, 0
	eachBase(t, func(g grid.Grid, r int, x api.Base) {
		for _, c := range x.Inbox {
			if c.Kind == api.Handoff {
				hands++
			} else {
				blasts++
			}
		}
		if len(x.Inbox) > 1 {
			several++
		}
		b, e := Pack(g, r, x)
		if !May(g, r, x) || e != api.OK || !slices.Equal(b, numbers(ofBase(x)...)) {
			t.Errorf("P12.2: Pack of the region %d at the frame %d: %v, error %d", r, x.State.Frame, b, e)
		}
		checkTake(t, g, r, b, x, api.OK)
		for other := range g.Regions() {
			empty := len(x.State.Entities) == 0 && len(x.Inbox) == 0
			if other != r && May(g, other, x) != empty {
				t.Errorf("P12.2: May of the region %d as the region %d: %v", r, other, !empty)
			}
		}
		b, e = PackCross(g, x.Inbox...)
		if e != api.OK || !slices.Equal(b, numbers(ofMessages(x.Inbox...)...)) {
			t.Errorf("P12.1: PackCross of the Inbox of %d at the frame %d: %v, error %d", r, x.State.Frame, b, e)
		}
		checkTakeCross(t, g, b, x.Inbox, api.OK)
	})
	if hands < 10 || blasts < 10 || several < 10 {
		t.Errorf("too little comes in: %d Handoffs, %d Blasts, %d times several", hands, blasts, several)
	}
}

// TestOrderOfInboxes: all orders of a few messages are told as the words tell them.
func TestOrderOfInboxes(t *testing.T) {
	g := gridOf(t, 2, 2)
	l := []api.Cross{hand(0, 1, 6, player(2, 1030, 5)), hand(0, 1, 6, gem(1000, 1030, 5)), blast(0, 1, 6, 3, 4), blast(0, 1, 6, 3, 5), blast(2, 1, 6, 0, 0), hand(3, 1, 6, player(1, 1030, 5)), blast(3, 1, 6, 3, 4)}
	may := 0
	for seed := range 30000 {
		var inbox []api.Cross
		for i := range chance.Below(6, uint64(seed), 0) {
			inbox = append(inbox, l[chance.Below(len(l), uint64(seed), 1, i)])
		}
		x := baseAt(7, nil, inbox...)
		if want := modelMay(g, 1, x); May(g, 1, x) != want {
			t.Errorf("P12.2: May of %+v: %v", inbox, !want)
		} else if want {
			may++
		}
	}
	if may < 1000 || may > 29000 {
		t.Errorf("of all orders %d may be", may)
	}
}
