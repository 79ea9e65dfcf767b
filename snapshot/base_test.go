package snapshot

import (
	"math"
	"slices"
	"testing"

	"joust/api"
	"joust/grid"
)

// baseAt is where a region may begin, if its entities are in it, and what comes in is to come then.
func baseAt(frame int, entities []api.Entity, inbox ...api.Cross) api.Base {
	return api.Base{State: api.Region{Frame: frame, Entities: entities}, Inbox: inbox}
}

// full is a base of the region 1 of an arena of 2 columns and 2 rows: each kind of entity, and each kind of message of several regions.
func full() api.Base {
	return baseAt(7, []api.Entity{player(1, 1024, 0), player(6, 2047, 1023), shot(1000, 1500, 64), gem(1<<31-1, 1100, 9)},
		hand(0, 1, 6, player(2, 1030, 5)), hand(0, 1, 6, shot(1001, 1040, 5)), blast(0, 1, 6, 3, 4), blast(0, 1, 6, 3, 4), blast(0, 1, 6, 3, 5), blast(1, 1, 6, 2, 2), hand(2, 1, 6, gem(1002, 1025, 6)), hand(3, 1, 6, player(3, 2000, 1000)), blast(3, 1, 6, 0, 0))
}

// turned is full behind a change.
func turned(change func(b *api.Base)) api.Base {
	b := full()
	change(&b)
	return b
}

// named is a base by a name.
type named struct {
	name string
	b    api.Base
}

// right is bases at which the region 1 of an arena of 2 columns and 2 rows may begin.
func right() []named {
	gems := func(n int) []api.Entity {
		l := []api.Entity{player(1, 1024, 0)}
		for i := range n {
			l = append(l, gem(1000+i, 1024+i, i))
		}
		return l
	}
	entities := full().State.Entities
	return []named{
		{"each kind", full()},
		{"nothing", api.Base{}},
		{"empty lists", baseAt(0, []api.Entity{}, []api.Cross{}...)},
		{"an Inbox of none", baseAt(7, entities)},
		{"an Inbox of none at first", baseAt(0, entities)},
		{"an Inbox of none at last", baseAt(10000, entities)},
		{"nobody there", baseAt(7, nil, full().Inbox...)},
		{"the frame 1", baseAt(1, entities, blast(1, 1, 0, 5, 5))},
		{"the last frame", baseAt(10000, entities, blast(1, 1, 9999, 5, 5), hand(3, 1, 9999, player(2, 1030, 5)))},
		{"as many things as there may be", baseAt(7, gems(24))},
		{"one who comes in is there", baseAt(7, entities, hand(0, 1, 6, player(1, 1030, 5)))},
		{"one more number of the same entity", baseAt(7, nil, hand(0, 1, 6, gem(1000, 1030, 5)), hand(0, 1, 6, gem(1000, 1029, 4)))},
		{"the same the other way round", baseAt(7, nil, hand(0, 1, 6, gem(1000, 1029, 4)), hand(0, 1, 6, gem(1000, 1030, 5)))},
		{"a lesser one of a later region", baseAt(7, nil, blast(0, 1, 6, 9, 9), hand(2, 1, 6, gem(1000, 1030, 5)), hand(3, 1, 6, player(1, 1030, 5)))},
		{"many that are alike", baseAt(7, nil, slices.Repeat([]api.Cross{blast(2, 1, 6, 9, 9)}, 64)...)},
		{"a thousand", baseAt(7, nil, slices.Repeat([]api.Cross{blast(2, 1, 6, 9, 9)}, 1000)...)},
	}
}

// wrongStates is bases whose State is not right as the region 1.
func wrongStates() []named {
	state := func(change func(s *api.Region)) api.Base { return turned(func(b *api.Base) { change(&b.State) }) }
	l := []named{
		{"the frame -1", baseAt(-1, nil)}, {"a frame too many", baseAt(10001, nil)}, {"the frame 2^32", baseAt(1<<32, nil)}, {"the least frame", baseAt(-1<<62, nil)},
		{"numbers that fall", state(func(s *api.Region) { s.Entities[0], s.Entities[1] = s.Entities[1], s.Entities[0] })},
		{"a number twice", state(func(s *api.Region) { s.Entities[1].Id = 1 })},
		{"the last two turned", state(func(s *api.Region) { s.Entities[2], s.Entities[3] = s.Entities[3], s.Entities[2] })},
		{"the first one elsewhere", state(func(s *api.Region) { s.Entities[0].X = 1023 })},
		{"the last one elsewhere", state(func(s *api.Region) { s.Entities[3].Y = 1024 })},
		{"one outside", state(func(s *api.Region) { s.Entities[2].Y = -1 })},
		{"one without health", state(func(s *api.Region) { s.Entities[1].Health = 0 })},
		{"one of no Kind", state(func(s *api.Region) { s.Entities[1].Kind = 0 })},
		{"one of another Kind", state(func(s *api.Region) { s.Entities[3].Kind = 4 })},
		{"nobody", state(func(s *api.Region) { s.Entities[0] = api.Entity{} })},
		{"a player too many", state(func(s *api.Region) { s.Entities[1].Id = 7 })},
	}
	many := right()[9].b
	many.State.Entities = append(many.State.Entities, gem(5000, 1030, 5))
	return append(l, named{"a thing too many", many})
}

// wrongInboxes is bases of which one message may not come in, or not where it stands.
func wrongInboxes() []named {
	in := func(change func(l []api.Cross)) api.Base { return turned(func(b *api.Base) { change(b.Inbox) }) }
	swap := func(i, j int) api.Base { return in(func(l []api.Cross) { l[i], l[j] = l[j], l[i] }) }
	one := func(frame int, l ...api.Cross) api.Base { return baseAt(frame, nil, l...) }
	return []named{
		{"one from nowhere", in(func(l []api.Cross) { l[8].From = 4 })},
		{"one from ahead of all", in(func(l []api.Cross) { l[0].From = -1 })},
		{"one that is handed to where it is", in(func(l []api.Cross) { l[7].From, l[8].From = 1, 3 })},
		{"one that stands elsewhere", in(func(l []api.Cross) { l[0].Entity.X = 1023 })},
		{"one that is outside", in(func(l []api.Cross) { l[8].X = -1 })},
		{"one to another region", in(func(l []api.Cross) { l[5].To = 0 })},
		{"the last one to another region", in(func(l []api.Cross) { l[8].To = 2 })},
		{"one handed to another region", one(7, hand(0, 2, 6, player(1, 5, 1030)))},
		{"all to another region", one(7, blast(0, 0, 6, 5, 5), blast(1, 0, 6, 5, 5))},
		{"one of the State's frame", in(func(l []api.Cross) { l[0].Frame = 7 })},
		{"the last one of the State's frame", in(func(l []api.Cross) { l[8].Frame = 7 })},
		{"one of two ahead", in(func(l []api.Cross) { l[4].Frame = 5 })},
		{"one of the frame behind", in(func(l []api.Cross) { l[4].Frame = 8 })},
		{"all of the State's frame", one(7, blast(0, 1, 7, 5, 5), blast(1, 1, 7, 5, 5))},
		{"one ahead of the frame 0", one(0, blast(0, 1, -1, 5, 5))},
		{"one of the frame 0 at 0", one(0, blast(0, 1, 0, 5, 5))},
		{"one of the frame 10,000 at 10,000", one(10000, blast(0, 1, 10000, 5, 5))},
		{"From falls at first", swap(0, 5)}, {"From falls at last", swap(6, 7)}, {"From falls to the first one", one(7, blast(0, 1, 6, 5, 5), blast(2, 1, 6, 5, 5), blast(0, 1, 6, 5, 5))},
		{"From falls, but is sorted", one(7, hand(3, 1, 6, player(1, 1030, 5)), hand(0, 1, 6, gem(1000, 1030, 5)), blast(0, 1, 6, 9, 9))},
		{"a Blast ahead of a Handoff at first", one(7, blast(0, 1, 6, 0, 0), hand(0, 1, 6, player(1, 1030, 5)))},
		{"a Blast ahead of a Handoff", swap(1, 2)}, {"a Blast ahead of a Handoff at last", swap(7, 8)},
		{"numbers that fall", swap(0, 1)}, {"X that falls", one(7, blast(2, 1, 6, 5, 1), blast(2, 1, 6, 4, 2))}, {"Y that falls", swap(3, 4)},
		{"one that is less than the first one alone", one(7, hand(0, 1, 6, gem(1001, 1030, 5)), hand(0, 1, 6, gem(1002, 1030, 5)), hand(0, 1, 6, gem(1000, 1030, 5)))},
		{"the first one at last", one(7, hand(0, 1, 6, gem(1001, 1030, 5)), hand(0, 1, 6, gem(1001, 1030, 5)), blast(0, 1, 6, 5, 5), hand(0, 1, 6, gem(1001, 1030, 5)))},
	}
}

// neverBases is bases that may not be, of which what is wrong is not even written, or can't be read.
func neverBases() []named {
	in := func(change func(l []api.Cross)) api.Base { return turned(func(b *api.Base) { change(b.Inbox) }) }
	l := []named{
		{"the least frame of all", baseAt(math.MinInt, nil)}, {"the greatest frame of all", baseAt(math.MaxInt, nil)},
		{"the frames at both ends", baseAt(math.MinInt, nil, blast(0, 1, math.MaxInt, 5, 5))},
		{"a Handoff with a place", in(func(l []api.Cross) { l[0].X = 1 })}, {"a Blast with an entity", in(func(l []api.Cross) { l[8].Entity.Owner = 1 })},
	}
	for _, kind := range append(otherKinds(), 3) {
		l = append(l, named{"a message of no Kind", in(func(l []api.Cross) { l[8].Kind = kind })}, named{"a message of no Kind at first", in(func(l []api.Cross) { l[0].Kind = kind })})
	}
	return l
}

// checkTake asks for Take of b as the region r; want is nothing beside an error.
func checkTake(t *testing.T, g grid.Grid, r int, b []byte, want api.Base, wrong api.Errno) {
	t.Helper()
	if x, e := Take(g, r, b); e != wrong || !sameBase(x, want) {
		t.Errorf("P12.2: Take of the region %d of %v: %+v, error %d; want %+v, error %d", r, b, x, e, want, wrong)
	}
}

// checkNone asks that the region r may not begin at b.
func checkNone(t *testing.T, g grid.Grid, r int, n named) {
	t.Helper()
	if May(g, r, n.b) {
		t.Errorf("P12.2: May of the region %d, %s: true", r, n.name)
	}
	if b, e := Pack(g, r, n.b); e != api.ErrForm || len(b) != 0 {
		t.Errorf("P12.2: Pack of the region %d, %s: %v, error %d; want 4", r, n.name, b, e)
	}
}

func TestRightBases(t *testing.T) {
	g := gridOf(t, 2, 2)
	for _, n := range right() {
		if !May(g, 1, n.b) {
			t.Errorf("P12.2: May of %s: false", n.name)
		}
		b, e := Pack(g, 1, n.b)
		if want := numbers(ofBase(n.b)...); e != api.OK || !slices.Equal(b, want) {
			t.Errorf("P12.2: Pack of %s: %v, error %d; want %v", n.name, b, e, want)
		}
		checkTake(t, g, 1, b, n.b, api.OK)
	}
}

// TestPackWrittenOut: the bytes of a base, without any counting.
func TestPackWrittenOut(t *testing.T) {
	b := baseAt(7, []api.Entity{{Id: 1, Kind: api.Player, X: 100, Y: 200, Health: 100}, {Id: 1000, Kind: api.Shot, X: 3, Y: 4, Vx: -160, Health: 1, Age: 9, Owner: 1}}, hand(1, 0, 6, api.Entity{Id: 2, Kind: api.Player, X: 9, Y: 8, Vy: -32, Health: 100}), blast(2, 0, 6, 1, 2))
	want := []byte{14, 4, 2, 2, 200, 1, 144, 3, 0, 0, 200, 1, 0, 0, 208, 15, 4, 6, 8, 191, 2, 0, 2, 18, 2, 4, 2, 2, 0, 12, 4, 2, 18, 16, 0, 63, 200, 1, 0, 0, 4, 4, 0, 12, 2, 4}
	g := gridOf(t, 2, 2)
	if got, e := Pack(g, 0, b); e != api.OK || !slices.Equal(got, want) {
		t.Errorf("P12.2: Pack: %v, error %d; want %v", got, e, want)
	}
	checkTake(t, g, 0, want, b, api.OK)
	if got, e := Pack(g, 3, api.Base{}); e != api.OK || !slices.Equal(got, []byte{0, 0, 0}) {
		t.Errorf("P12.2: Pack of nothing: %v, error %d", got, e)
	}
	checkTake(t, g, 3, []byte{0, 0, 0}, api.Base{}, api.OK)
}

func TestWrongBases(t *testing.T) {
	g := gridOf(t, 2, 2)
	for _, n := range slices.Concat(wrongStates(), wrongInboxes()) {
		checkNone(t, g, 1, n)
		b := numbers(ofBase(n.b)...)
		checkTake(t, g, 1, b, api.Base{}, api.ErrForm)
		checkTake(t, g, 1, append(slices.Clone(b), 0), api.Base{}, api.ErrForm)
		// What is wrong is asked of what was read whole: so these end too early.
		for i := range b {
			checkTake(t, g, 1, b[:i], api.Base{}, api.ErrShort)
		}
	}
	for _, n := range neverBases() {
		checkNone(t, g, 1, n)
	}
}

// TestBasesOfOtherRegions: who may begin as one region may not as another one, unless there is nothing.
func TestBasesOfOtherRegions(t *testing.T) {
	g := gridOf(t, 2, 2)
	none := baseAt(5000, nil)
	for _, r := range []int{0, 1, 2, 3} {
		if !May(g, r, none) {
			t.Errorf("P12.2: May of nothing, the region %d: false", r)
		}
		checkTake(t, g, r, numbers(5000, 0, 0), none, api.OK)
	}
	for _, r := range append(extremes(), 4, 5, math.MinInt, math.MaxInt) {
		checkNone(t, g, r, named{"nothing", none})
		checkTake(t, g, r, numbers(5000, 0, 0), api.Base{}, api.ErrForm)
		checkTake(t, g, r, numbers(5000, 0), api.Base{}, api.ErrShort)
	}
	for _, n := range []named{{"each kind", full()}, {"entities alone", baseAt(7, full().State.Entities)}, {"an Inbox alone", baseAt(7, nil, full().Inbox...)}, {"a Blast alone", baseAt(7, nil, blast(1, 1, 6, 5, 5))}} {
		b := numbers(ofBase(n.b)...)
		checkTake(t, g, 1, b, n.b, api.OK)
		for _, r := range []int{0, 2, 3, -1, 4} {
			checkNone(t, g, r, n)
			checkTake(t, g, r, b, api.Base{}, api.ErrForm)
		}
	}
}

func TestBasesInNoArena(t *testing.T) {
	for _, g := range untold() {
		for _, n := range right() {
			for _, r := range []int{-1, 0, 1} {
				checkNone(t, g, r, n)
			}
		}
		checkTake(t, g, 0, []byte{0, 0, 0}, api.Base{}, api.ErrForm)
		checkTake(t, g, 0, []byte{0, 0}, api.Base{}, api.ErrShort)
		checkTake(t, g, 1, numbers(ofBase(full())...), api.Base{}, api.ErrForm)
	}
}

// TestTakeThatEnds: ahead of each number, and within each.
func TestTakeThatEnds(t *testing.T) {
	g := gridOf(t, 2, 2)
	checkTake(t, g, 1, nil, api.Base{}, api.ErrShort)
	checkTake(t, g, 1, []byte{}, api.Base{}, api.ErrShort)
	for _, n := range right() {
		b := numbers(ofBase(n.b)...)
		for i := range b[:min(len(b), 400)] {
			checkTake(t, g, 1, b[:i], api.Base{}, api.ErrShort)
		}
	}
}

// TestTakeHowMany: both lists from 0 to 1,000, and as many as there are.
func TestTakeHowMany(t *testing.T) {
	g := gridOf(t, 2, 2)
	entity, message := ofEntity(gem(1000, 1030, 5)), ofMessage(blast(2, 1, 6, 9, 9))
	for _, told := range []int{-1, -2, -1000, -1 << 32, -1 << 62, 1001, 1002, 2000, 1 << 32, 1<<32 + 1, 1<<62 - 1} {
		for _, behind := range [][]int{nil, {0}, entity, message, slices.Repeat(entity, 1001), slices.Repeat(message, 1001), append(slices.Clone(entity), 0)} {
			checkTake(t, g, 1, numbers(append([]int{7, told}, behind...)...), api.Base{}, api.ErrForm)
			checkTake(t, g, 1, numbers(append([]int{7, 0, told}, behind...)...), api.Base{}, api.ErrForm)
			checkTake(t, g, 1, numbers(slices.Concat([]int{7, 1}, entity, []int{told}, behind)...), api.Base{}, api.ErrForm)
		}
	}
	for _, r := range []struct {
		l    []int
		want api.Errno
	}{
		{[]int{7, 1000}, api.ErrShort}, {[]int{7, 2}, api.ErrShort}, {append([]int{7, 2}, entity...), api.ErrShort}, {append([]int{7, 1}, entity...), api.ErrShort}, {append([]int{7, 1000}, slices.Repeat(entity, 999)...), api.ErrShort},
		// So many are read, and there may not be so many.
		{slices.Concat([]int{7, 1000}, slices.Repeat(entity, 1000), []int{0}), api.ErrForm}, {slices.Concat([]int{7, 1000}, slices.Repeat(entity, 1000)), api.ErrShort},
		{[]int{7, 0, 1000}, api.ErrShort}, {append([]int{7, 0, 2}, message...), api.ErrShort}, {append([]int{7, 0, 1000}, slices.Repeat(message, 999)...), api.ErrShort},
		{append([]int{7, 0, 0}, message...), api.ErrForm}, {slices.Concat([]int{7, 0, 1}, message, message), api.ErrForm}, {append([]int{7, 0, 1000}, slices.Repeat(message, 1001)...), api.ErrForm},
		{append([]int{7, 0}, entity...), api.ErrForm},
	} {
		checkTake(t, g, 1, numbers(r.l...), api.Base{}, r.want)
	}
}

// TestPackOfTooMany: how many come in is not asked of what is packed.
func TestPackOfTooMany(t *testing.T) {
	g := gridOf(t, 2, 2)
	x := baseAt(7, nil, slices.Repeat([]api.Cross{blast(2, 1, 6, 9, 9)}, 1001)...)
	b, e := Pack(g, 1, x)
	if !May(g, 1, x) || e != api.OK || !slices.Equal(b, numbers(ofBase(x)...)) {
		t.Errorf("P12.2: Pack of 1,001 messages: %d bytes, error %d", len(b), e)
	}
	checkTake(t, g, 1, b, api.Base{}, api.ErrForm)
}

// TestTakeOfNoKind: a message of none is refused behind its Frame, and not ahead of that; an entity of none is read whole.
func TestTakeOfNoKind(t *testing.T) {
	g := gridOf(t, 2, 2)
	for _, kind := range append(otherKinds(), 3) {
		for n := range 3 {
			l := full().Inbox[:n]
			begin := ofBase(baseAt(7, full().State.Entities, l...))
			begin[len(begin)-len(ofMessages(l...))] = 3
			ahead := []int{kind, 0, 1, 6}
			for i := range ahead {
				checkTake(t, g, 1, numbers(append(slices.Clone(begin), ahead[:i]...)...), api.Base{}, api.ErrShort)
			}
			b := numbers(append(slices.Clone(begin), ahead...)...)
			for _, behind := range [][]byte{nil, {10}, {128}, {128, 0}, numbers(ofEntity(player(2, 1030, 5))...), numbers(ofMessages(l...)...)} {
				checkTake(t, g, 1, slices.Concat(b, behind), api.Base{}, api.ErrForm)
			}
		}
	}
	for _, kind := range append(otherKinds(), 7) {
		e := player(2, 1030, 5)
		e.Kind = kind
		b := numbers(ofBase(baseAt(7, []api.Entity{e}))...)
		checkTake(t, g, 1, b, api.Base{}, api.ErrForm)
		for i := range b {
			checkTake(t, g, 1, b[:i], api.Base{}, api.ErrShort)
		}
	}
}

// TestTakeOfAnotherNumber: each number in more bytes than it needs, or in too many.
func TestTakeOfAnotherNumber(t *testing.T) {
	g := gridOf(t, 2, 2)
	all := ofBase(full())
	for i, v := range all {
		ahead, behind := numbers(all[:i]...), numbers(all[i+1:]...)
		for _, other := range [][]byte{longer(number(v)), longer(longer(number(v))), append(slices.Repeat([]byte{128}, 9), 1)} {
			checkTake(t, g, 1, slices.Concat(ahead, other, behind), api.Base{}, api.ErrForm)
			checkTake(t, g, 1, slices.Concat(ahead, other), api.Base{}, api.ErrForm)
		}
		checkTake(t, g, 1, slices.Concat(ahead, slices.Repeat([]byte{128}, 12)), api.Base{}, api.ErrShort)
	}
}

func TestTakeWithSomethingLeft(t *testing.T) {
	g := gridOf(t, 2, 2)
	for _, n := range right() {
		b := numbers(ofBase(n.b)...)
		for _, behind := range [][]byte{{0}, {1}, {128}, {128, 0}, {255, 255}, b} {
			checkTake(t, g, 1, slices.Concat(b, behind), api.Base{}, api.ErrForm)
		}
	}
}

// TestBasesStay: what came in is not changed, and what comes out is new (R3).
func TestBasesStay(t *testing.T) {
	g := gridOf(t, 2, 2)
	want := numbers(ofBase(full())...)
	entities, allEntities := roomy(full().State.Entities, api.Entity{Id: 9})
	inbox, allInbox := roomy(full().Inbox, api.Cross{Kind: 9})
	wasEntities, wasInbox := slices.Clone(allEntities), slices.Clone(allInbox)
	x := baseAt(7, entities, inbox...)
	first, _ := Pack(g, 1, x)
	second, _ := Pack(g, 1, x)
	overwrite(first, 99)
	if !May(g, 1, x) || !slices.Equal(allEntities, wasEntities) || !slices.Equal(allInbox, wasInbox) || !slices.Equal(second, want) {
		t.Errorf("R3: Pack: the base became %+v, %+v, another answer %v", allEntities, allInbox, second)
	}
	overwrite(allEntities, api.Entity{Id: 9})
	overwrite(allInbox, api.Cross{Kind: 9})
	if !slices.Equal(second, want) {
		t.Errorf("R3: Pack: an answer became %v", second)
	}
	b, whole := roomy(want, 2)
	was := slices.Clone(whole)
	one, _ := Take(g, 1, b)
	two, _ := Take(g, 1, b)
	overwrite(one.State.Entities, api.Entity{Id: 9})
	if !slices.Equal(one.Inbox, full().Inbox) {
		t.Errorf("R3: Take: the Inbox of an answer became %+v", one.Inbox)
	}
	overwrite(one.Inbox, api.Cross{Kind: 9})
	if !slices.Equal(whole, was) || !sameBase(two, full()) {
		t.Errorf("R3: Take: the bytes became %v, another answer %+v", whole, two)
	}
	overwrite(whole, 3)
	if !sameBase(two, full()) {
		t.Errorf("R3: Take: an answer became %+v", two)
	}
}
