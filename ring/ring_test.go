package ring

import (
	"math"
	"slices"
	"testing"

	"joust/api"
	"joust/chance"
)

// at is a region of a frame, in which there is one entity, of the number id.
func at(frame, id int) api.Region {
	return api.Region{Frame: frame, Entities: []api.Entity{{Id: id, Kind: api.Gem, X: frame, Y: -id, Vx: 1, Vy: 2, Health: 3, Age: 4, Owner: 5}}}
}

// ringOf is a Ring of that size into which regions of these frames were put, each with an entity of its frame's number.
func ringOf(t *testing.T, size int, frames ...int) *Ring {
	t.Helper()
	r := New(size)
	for _, f := range frames {
		put(t, r, f, f, true)
	}
	return r
}

// put puts a region of that frame and entity, and asks what Put answers.
func put(t *testing.T, r *Ring, frame, id int, want bool) {
	t.Helper()
	if got := r.Put(at(frame, id)); got != want {
		t.Fatalf("P14.1: Put of the frame %d: %v; want %v", frame, got, want)
	}
}

// same: are a and b the same?
func same(a, b api.Region) bool {
	return a.Frame == b.Frame && slices.Equal(a.Entities, b.Entities)
}

// asked asks that there are just the frames from first on, with entities of the numbers ids; none, if ids are none.
func asked(t *testing.T, what string, r *Ring, first int, ids ...int) {
	t.Helper()
	last := first + len(ids) - 1
	if len(ids) == 0 {
		first, last = -1, -1
	}
	if r.First() != first || r.Last() != last {
		t.Errorf("P14.1: %s: %d to %d; want %d to %d", what, r.First(), r.Last(), first, last)
	}
	for i, id := range ids {
		if s, is := r.Get(first + i); !is || !same(s, at(first+i, id)) {
			t.Errorf("P14.1: %s: Get(%d): %+v, %v; want the entity %d", what, first+i, s, is, id)
		}
	}
	others := []int{math.MinInt, math.MinInt + 1, math.MaxInt - 1, math.MaxInt, -1, 0, 1, 1 << 32}
	for d := range 70 {
		others = append(others, first-1-d, first+len(ids)+d)
	}
	for _, f := range others {
		if f >= first && f-first < len(ids) && f-first >= 0 {
			continue
		}
		if s, is := r.Get(f); is || !same(s, api.Region{}) {
			t.Errorf("P14.1: %s: Get(%d): %+v, %v; want nothing", what, f, s, is)
		}
	}
}

func TestExample(t *testing.T) {
	asked(t, "the example 1", ringOf(t, 2, 5, 6, 7), 6, 6, 7)
}

func TestNew(t *testing.T) {
	for _, x := range []struct{ size, room int }{
		{math.MinInt, 1}, {-1 << 32, 1}, {-33, 1}, {-32, 1}, {-1, 1}, {0, 1}, {1, 1}, {2, 2}, {3, 3}, {16, 16}, {31, 31},
		{api.RingSize, api.RingSize}, {33, 32}, {64, 32}, {1000, 32}, {1<<32 + 1, 32}, {math.MaxInt - 1, 32}, {math.MaxInt, 32},
	} {
		r := New(x.size)
		asked(t, "New", r, 0)
		for f := range 100 {
			put(t, r, f, f+1000, true)
			if first := max(0, f+1-x.room); r.First() != first || r.Last() != f {
				t.Errorf("P14.1: New(%d), behind the frame %d: %d to %d; want %d on", x.size, f, r.First(), r.Last(), first)
			}
		}
		var ids []int
		for f := 100 - x.room; f < 100; f++ {
			ids = append(ids, f+1000)
		}
		asked(t, "New, and a hundred", r, 100-x.room, ids...)
	}
}

// TestNewOfNone: a Ring that New did not make is as one of which the size is 0.
func TestNewOfNone(t *testing.T) {
	var r Ring
	asked(t, "no New", &r, 0)
	asked(t, "a Fork of no New", r.Fork(), 0)
	r.Cut(5)
	put(t, &r, 7, 70, true)
	put(t, &r, 8, 80, true)
	put(t, &r, 7, 71, false)
	asked(t, "no New, and two", &r, 8, 80)
}

func TestPutOfAnyFrameFirst(t *testing.T) {
	for _, f := range []int{0, 1, -1, -2, 5, 31, 32, 33, 9999, 10000, 10001, 1 << 31, 1<<32 + 5, -1 << 40, math.MinInt, math.MinInt + 1, math.MaxInt - 1, math.MaxInt} {
		for _, size := range []int{1, 2, 32} {
			r := New(size)
			put(t, r, f, 7, true)
			asked(t, "the first one", r, f, 7)
		}
	}
}

func TestPutOfTheNext(t *testing.T) {
	for _, first := range []int{math.MinInt, -40, -2, -1, 0, 1, 9990, 1 << 32, math.MaxInt - 19} {
		r := New(32)
		var ids []int
		for i := range 20 {
			put(t, r, first+i, i+5, true)
			ids = append(ids, i+5)
			asked(t, "one behind the other", r, first, ids...)
		}
	}
}

// TestPutPastMinusOne: that -1 is told of nothing, too, does not make a region of the frame -1 nothing.
func TestPutPastMinusOne(t *testing.T) {
	r := ringOf(t, 3, -1)
	put(t, r, 5, 50, false)
	put(t, r, -2, 50, false)
	put(t, r, 1, 50, false)
	asked(t, "the frame -1 alone", r, -1, -1)
	put(t, r, -1, 9, true)
	asked(t, "the frame -1 again", r, -1, 9)
	put(t, r, 0, 10, true)
	asked(t, "the frames -1 and 0", r, -1, 9, 10)
}

func TestPutInPlace(t *testing.T) {
	for _, size := range []int{5, 6, 32} {
		for i := range 5 {
			r := ringOf(t, size, 10, 11, 12, 13, 14)
			ids := []int{10, 11, 12, 13, 14}
			for again := range 3 {
				put(t, r, 10+i, 90+again, true)
				ids[i] = 90 + again
				asked(t, "one that takes the place", r, 10, ids...)
			}
		}
	}
	r := ringOf(t, 1, 10)
	put(t, r, 10, 99, true)
	asked(t, "one that takes the only place", r, 10, 99)
}

// TestPutOfNoList: what takes a place takes it whole.
func TestPutOfNoList(t *testing.T) {
	r := ringOf(t, 3, 4, 5)
	for _, l := range [][]api.Entity{nil, {}} {
		if !r.Put(api.Region{Frame: 4, Entities: l}) {
			t.Error("P14.1: Put of a region in which nobody is: false")
		}
		if s, is := r.Get(4); !is || s.Frame != 4 || len(s.Entities) > 0 {
			t.Errorf("P14.1: Get of a region in which nobody is: %+v, %v", s, is)
		}
	}
	if s, is := r.Get(5); !is || !same(s, at(5, 5)) {
		t.Errorf("P14.1: Get of the one behind: %+v, %v", s, is)
	}
}

func TestPutOfAnyOther(t *testing.T) {
	for _, first := range []int{math.MinInt, math.MinInt + 1, -40, -1, 0, 5, 9998, math.MaxInt - 3, math.MaxInt - 2} {
		for _, size := range []int{3, 4, 32} {
			r := ringOf(t, size, first, first+1, first+2)
			for _, f := range []int{first - 1, first - 2, first - 32, first + 4, first + 5, first + 32, first + 36, first + 1<<32, math.MinInt, math.MaxInt, -1, 0} {
				if last := first + 2; f < first || f > last && f-last > 1 || f > last && f-last < 0 {
					put(t, r, f, 99, false)
				}
			}
			asked(t, "what may not be put", r, first, first, first+1, first+2)
		}
	}
	// Behind the greatest number there is none, and ahead of the least one there is none.
	r := ringOf(t, 3, math.MaxInt)
	put(t, r, math.MinInt, 99, false)
	asked(t, "the greatest frame", r, math.MaxInt, math.MaxInt)
	r = ringOf(t, 3, math.MinInt)
	put(t, r, math.MaxInt, 99, false)
	asked(t, "the least frame", r, math.MinInt, math.MinInt)
}

func TestPutOfMoreThanSize(t *testing.T) {
	for _, size := range []int{1, 2, 3, 4, 31, 32} {
		r := New(size)
		var ids []int
		for f := range 3*size + 1 {
			put(t, r, 50+f, f, true)
			ids = append(ids, f)
			if len(ids) > size {
				put(t, r, 50+f-size, 99, false) // it is gone
				ids = ids[1:]
			}
			asked(t, "more than there is room for", r, 50+f+1-len(ids), ids...)
		}
		// What takes a place drops nobody.
		put(t, r, r.First(), 77, true)
		put(t, r, r.Last(), 78, true)
		ids[0] = 77
		ids[size-1] = 78
		asked(t, "a full one, and places taken", r, r.Last()+1-size, ids...)
	}
}

func TestGet(t *testing.T) {
	r := ringOf(t, 4, 20, 21, 22, 23, 24)
	for f := 21; f <= 24; f++ {
		for range 2 {
			if s, is := r.Get(f); !is || !same(s, at(f, f)) {
				t.Errorf("P14.1: Get(%d): %+v, %v", f, s, is)
			}
		}
	}
	for _, f := range []int{20, 19, 0, -1, math.MinInt, 25, 26, 21 + 32, 1<<32 + 21, math.MaxInt} {
		if s, is := r.Get(f); is || !same(s, api.Region{}) {
			t.Errorf("P14.1: Get(%d), where it is not: %+v, %v", f, s, is)
		}
	}
	for _, f := range []int{-1, 0, 1, 20, math.MinInt, math.MaxInt} {
		if s, is := New(4).Get(f); is || !same(s, api.Region{}) {
			t.Errorf("P14.1: Get(%d) of nothing: %+v, %v", f, s, is)
		}
	}
}

func TestCut(t *testing.T) {
	for _, x := range []struct {
		what  string
		frame int
		left  int
	}{
		{"at the least", math.MinInt, 0}, {"far ahead", -1, 0}, {"ahead of First", 9, 0}, {"at First", 10, 1}, {"within", 11, 2}, {"ahead of Last", 13, 4},
		{"at Last", 14, 5}, {"behind Last", 15, 5}, {"far behind", 1 << 32, 5}, {"at the greatest", math.MaxInt, 5},
	} {
		ids := []int{10, 11, 12, 13, 14}[:x.left]
		for _, size := range []int{5, 6, 32} {
			r := ringOf(t, size, 10, 11, 12, 13, 14)
			for range 2 {
				r.Cut(x.frame)
				asked(t, "Cut "+x.what, r, 10, ids...)
			}
			if x.left == 0 {
				put(t, r, 700, 7, true)
				put(t, r, 702, 7, false)
				put(t, r, 701, 8, true)
				asked(t, "Cut, and another beginning, "+x.what, r, 700, 7, 8)
				continue
			}
			put(t, r, 10+x.left+1, 99, false)
			put(t, r, 9, 99, false)
			asked(t, "Cut, and others, "+x.what, r, 10, ids...)
			put(t, r, 10+x.left, 99, true)
			all := append(slices.Clone(ids), 99)
			asked(t, "Cut, and the next, "+x.what, r, 10+max(0, len(all)-size), all[max(0, len(all)-size):]...)
		}
	}
}

func TestCutOfNothing(t *testing.T) {
	for _, f := range []int{math.MinInt, -1, 0, 5, math.MaxInt} {
		r := New(3)
		r.Cut(f)
		asked(t, "Cut of nothing", r, 0)
		put(t, r, 5, 50, true)
		put(t, r, 6, 60, true)
		asked(t, "Cut of nothing, and two", r, 5, 50, 60)
	}
}

// TestCutAtTheEnds: frames at both ends of int are cut as any others.
func TestCutAtTheEnds(t *testing.T) {
	r := ringOf(t, 4, math.MaxInt-2, math.MaxInt-1, math.MaxInt)
	r.Cut(math.MaxInt)
	asked(t, "Cut at the greatest", r, math.MaxInt-2, math.MaxInt-2, math.MaxInt-1, math.MaxInt)
	r.Cut(math.MaxInt - 1)
	asked(t, "Cut ahead of it", r, math.MaxInt-2, math.MaxInt-2, math.MaxInt-1)
	r = ringOf(t, 4, math.MinInt, math.MinInt+1, math.MinInt+2)
	r.Cut(math.MinInt)
	asked(t, "Cut at the least", r, math.MinInt, math.MinInt)
	put(t, r, math.MinInt+1, 5, true)
	asked(t, "Cut at the least, and the next", r, math.MinInt, math.MinInt, 5)
}

// TestCutThenFull: where something was cut, there is room for as many again.
func TestCutThenFull(t *testing.T) {
	for _, size := range []int{1, 2, 5, 32} {
		r := New(size)
		for f := range 2 * size {
			put(t, r, f, f, true)
		}
		r.Cut(size)
		for f := size + 1; f < 4*size; f++ {
			put(t, r, f, f+100, true)
			if first := max(size, f+1-size); r.First() != first || r.Last() != f {
				t.Errorf("P14.1: the size %d, cut and put again up to %d: %d to %d; want %d on", size, f, r.First(), r.Last(), first)
			}
		}
	}
}

func TestFork(t *testing.T) {
	for _, size := range []int{-5, 1, 2, 5, 31, 32, 33} {
		room := min(max(size, 1), 32)
		r := New(size)
		empty := r.Fork()
		asked(t, "a Fork of nothing", empty, 0)
		var ids []int
		for f := range room + 3 {
			put(t, r, f, f+500, true)
			ids = append(ids, f+500)
		}
		ids = ids[3:]
		f := r.Fork()
		asked(t, "a Fork", f, 3, ids...)
		asked(t, "what was forked", r, 3, ids...)
		asked(t, "a Fork of nothing, later", empty, 0)
		// Both have room for as many.
		for i := range room {
			put(t, f, room+3+i, i, true)
			put(t, empty, i, i, true)
		}
		if f.First() != room+3 || f.Last() != 2*room+2 || empty.First() != 0 || empty.Last() != room-1 {
			t.Errorf("P14.1: Forks of the size %d: %d to %d, %d to %d", size, f.First(), f.Last(), empty.First(), empty.Last())
		}
		put(t, empty, room, 1, true)
		if empty.First() != 1 {
			t.Errorf("P14.1: a Fork of the size %d: First %d; want 1", size, empty.First())
		}
		asked(t, "what was forked, later", r, 3, ids...)
	}
}

// TestForkGoesItsOwnWay: what is done to the one is not seen at the other.
func TestForkGoesItsOwnWay(t *testing.T) {
	deeds := map[string]func(r *Ring){
		"Put in place":    func(r *Ring) { r.Put(at(6, 66)) },
		"Put of the next": func(r *Ring) { r.Put(at(8, 88)) },
		"Put of many": func(r *Ring) {
			for f := range 40 {
				r.Put(at(8+f, 1))
			}
		},
		"Cut":                func(r *Ring) { r.Cut(5) },
		"Cut of all":         func(r *Ring) { r.Cut(0) },
		"Cut, and Put":       func(r *Ring) { r.Cut(5); r.Put(at(6, 67)); r.Put(at(7, 77)); r.Put(at(8, 87)) },
		"Cut of all, Put":    func(r *Ring) { r.Cut(0); r.Put(at(90, 9)) },
		"Get, written into":  func(r *Ring) { s, _ := r.Get(6); s.Entities[0].Id = 1; s.Frame = 3 },
		"Fork, and Put":      func(r *Ring) { r.Fork().Put(at(6, 66)) },
		"Fork, Cut and Puts": func(r *Ring) { f := r.Fork(); f.Cut(5); f.Put(at(6, 66)); f.Put(at(7, 66)); f.Put(at(8, 66)) },
	}
	for name, deed := range deeds {
		for _, size := range []int{3, 4, 32} {
			r := ringOf(t, size, 5, 6, 7)
			f := r.Fork()
			deed(f)
			asked(t, "what was forked, behind "+name+" of the Fork", r, 5, 5, 6, 7)
			r = ringOf(t, size, 5, 6, 7)
			f = r.Fork()
			deed(r)
			asked(t, "the Fork, behind "+name+" of what was forked", f, 5, 5, 6, 7)
		}
	}
	// Both put behind what they have in common.
	r := ringOf(t, 32, 5, 6, 7)
	f := r.Fork()
	g := f.Fork()
	put(t, r, 8, 81, true)
	put(t, f, 8, 82, true)
	put(t, g, 8, 83, true)
	asked(t, "what was forked", r, 5, 5, 6, 7, 81)
	asked(t, "the Fork", f, 5, 5, 6, 7, 82)
	asked(t, "the Fork of the Fork", g, 5, 5, 6, 7, 83)
}

// TestRingsAreTheirOwn: what is done with one ring plays no part in another.
func TestRingsAreTheirOwn(t *testing.T) {
	a, b := New(2), New(3)
	put(t, a, 1, 11, true)
	put(t, b, 7, 71, true)
	put(t, a, 2, 12, true)
	put(t, b, 8, 72, true)
	a.Cut(1)
	asked(t, "the one", a, 1, 11)
	asked(t, "the other", b, 7, 71, 72)
}

func TestNil(t *testing.T) {
	var r *Ring
	for _, f := range []int{math.MinInt, -1, 0, 5, math.MaxInt} {
		if r.Put(at(f, 1)) || r.Put(api.Region{Frame: f}) {
			t.Errorf("P14.1: Put of the frame %d into nil: true", f)
		}
		if s, is := r.Get(f); is || !same(s, api.Region{}) {
			t.Errorf("P14.1: Get(%d) of nil: %+v, %v", f, s, is)
		}
		r.Cut(f)
	}
	if r.First() != -1 || r.Last() != -1 || r.Fork() != nil {
		t.Errorf("P14.1: First %d, Last %d, Fork %v of nil", r.First(), r.Last(), r.Fork())
	}
}

func TestWhatComesInStays(t *testing.T) {
	r := New(2)
	for f := range 5 {
		whole := make([]api.Entity, 6)
		for i := range whole {
			whole[i] = api.Entity{Id: 10*f + i}
		}
		want := slices.Clone(whole)
		s := api.Region{Frame: f, Entities: whole[1:3]}
		if !r.Put(s) || !r.Put(s) {
			t.Fatalf("P14.1: Put of the frame %d: false", f)
		}
		if r.Put(api.Region{Frame: f + 2, Entities: whole[1:3]}) {
			t.Fatalf("P14.1: Put of the frame %d: true", f+2)
		}
		got, _ := r.Get(f)
		got.Entities = append(got.Entities, api.Entity{Id: 99})
		if r.Cut(f); !slices.Equal(whole, want) || s.Frame != f || len(s.Entities) != 2 {
			t.Errorf("R3: what was handed in is now %v; was %v", whole, want)
		}
		// And who writes into it changes nothing here.
		clear(whole)
		if got, is := r.Get(f); !is || got.Frame != f || !slices.Equal(got.Entities, want[1:3]) {
			t.Errorf("R3: the frame %d is %v, behind that what was handed in was written into; was %v", f, got.Entities, want[1:3])
		}
	}
}

func TestWhatComesOutIsNew(t *testing.T) {
	r := ringOf(t, 3, 5, 6, 7)
	f := r.Fork()
	for frame := 5; frame <= 7; frame++ {
		a, _ := r.Get(frame)
		b, _ := r.Get(frame)
		c, _ := f.Get(frame)
		clear(a.Entities[:cap(a.Entities)])
		if !same(b, at(frame, frame)) || !same(c, at(frame, frame)) {
			t.Errorf("R3: what Get answers of the frame %d shares memory with what it answers again", frame)
		}
		clear(c.Entities[:cap(c.Entities)])
		if !same(b, at(frame, frame)) {
			t.Errorf("R3: what Get of a Fork answers of the frame %d shares memory with what was forked", frame)
		}
	}
	asked(t, "what was written into what came out", r, 5, 5, 6, 7)
	asked(t, "the same, of a Fork", f, 5, 5, 6, 7)
}

// model is a ring that is told another way: which entity each frame has.
type model struct {
	size int
	ids  map[int]int
}

// ends is the least and the greatest frame; -1, if nothing is there.
func (m model) ends() (int, int) {
	if len(m.ids) == 0 {
		return -1, -1
	}
	first, last := math.MaxInt, math.MinInt
	for f := range m.ids {
		first, last = min(first, f), max(last, f)
	}
	return first, last
}

// put is what Put is to do.
func (m model) put(frame, id int) bool {
	first, last := m.ends()
	if len(m.ids) > 0 && (frame < first || frame > last+1) {
		return false
	}
	if m.ids[frame] = id; len(m.ids) > m.size {
		delete(m.ids, first)
	}
	return true
}

// cut is what Cut is to do.
func (m model) cut(frame int) {
	for f := range m.ids {
		if f > frame {
			delete(m.ids, f)
		}
	}
}

// fork is what Fork is to do.
func (m model) fork() model {
	other := model{m.size, map[int]int{}}
	for f, id := range m.ids {
		other.ids[f] = id
	}
	return other
}

// TestModel: rings to which much is done are as the model tells, and so are their forks.
func TestModel(t *testing.T) {
	for seed := range 40 {
		size := chance.Below(34, uint64(seed), 1)
		rings := []*Ring{New(size)}
		models := []model{{min(max(size, 1), 32), map[int]int{}}}
		for n := range 1500 {
			i := chance.Below(len(rings), uint64(seed), n, 2)
			r, m := rings[i], models[i]
			first, last := m.ends()
			near := first - 3 + chance.Below(last-first+7, uint64(seed), n, 3)
			switch kind := chance.Below(20, uint64(seed), n, 4); {
			case kind < 10:
				if got, want := r.Put(at(last+1, n)), m.put(last+1, n); got != want {
					t.Fatalf("P14.1: Put of the next: %v; want %v", got, want)
				}
			case kind < 17:
				if got, want := r.Put(at(near, n)), m.put(near, n); got != want {
					t.Fatalf("P14.1: Put of the frame %d, from %d to %d: %v; want %v", near, first, last, got, want)
				}
			case kind < 19:
				r.Cut(near)
				m.cut(near)
			case len(rings) < 4:
				rings, models = append(rings, r.Fork()), append(models, m.fork())
			}
			compare(t, r, m)
		}
		for i := range rings {
			compare(t, rings[i], models[i])
		}
	}
}

// compare asks that r is as m tells.
func compare(t *testing.T, r *Ring, m model) {
	t.Helper()
	first, last := m.ends()
	if r.First() != first || r.Last() != last {
		t.Fatalf("P14.1: %d to %d; want %d to %d", r.First(), r.Last(), first, last)
	}
	for f := first - 5; f <= last+5; f++ {
		id, want := m.ids[f]
		s, is := r.Get(f)
		if is != want || is && !same(s, at(f, id)) || !is && !same(s, api.Region{}) {
			t.Fatalf("P14.1: Get(%d): %+v, %v; want %v, the entity %d", f, s, is, want, id)
		}
	}
}
