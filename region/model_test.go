package region

import (
	"maps"
	"slices"
	"testing"

	"joust/api"
	"joust/chance"
	"joust/cross"
	"joust/entity"
	"joust/grid"
)

// model goes through a frame by a count of the tests' own: entities by their numbers, and nothing of the layers that Step calls but chance.
type model struct {
	g    grid.Grid
	r, f int
	all  map[int]*api.Entity
	made int
	out  []api.Cross
}

// ids is the numbers that are there, rising; of one kind, or of all (0).
func (m *model) ids(kind int) []int {
	var l []int
	for _, id := range slices.Sorted(maps.Keys(m.all)) {
		if kind == 0 || m.all[id].Kind == kind {
			l = append(l, id)
		}
	}
	return l
}

func (m *model) things() int { return len(m.ids(2)) + len(m.ids(3)) }

func (m *model) room() bool { return m.made < 8 && m.things() < 24 }

func (m *model) put(e api.Entity) {
	if m.all[e.Id] == nil {
		m.all[e.Id] = &e
	}
}

// new puts one with the next number.
func (m *model) new(e api.Entity) {
	e.Id = 1000 + (m.f*m.g.Cols*m.g.Rows+m.r)*8 + m.made
	m.made++
	m.put(e)
}

// in: is a at most reach far from b, along x and along y?
func in(a, b *api.Entity, reach int) bool {
	dx, dy := a.X-b.X, a.Y-b.Y
	return max(dx, -dx, dy, -dy) <= reach
}

// sign of v.
func sign(v int) int {
	switch {
	case v < 0:
		return -1
	case v > 0:
		return 1
	}
	return 0
}

// modelStep is what Step is to tell.
func modelStep(c call) (api.Region, []api.Cross) {
	m := &model{g: c.g, r: c.r, f: c.s.Frame, all: map[int]*api.Entity{}}
	for _, e := range c.s.Entities {
		m.put(e)
	}
	for _, x := range c.inbox {
		if x.Kind == 1 && (x.Entity.Kind == 1 || m.things() < 24) {
			m.put(x.Entity)
		}
	}
	m.steer(c.inputs)
	m.move()
	m.meet(c.inbox)
	m.fall()
	if chance.Below(8, m.g.Seed, 3, m.f, m.r) == 0 && len(m.ids(3)) < 3 && m.room() {
		m.new(api.Entity{Kind: 3, X: m.r%m.g.Cols*1024 + chance.Below(1024, m.g.Seed, 4, m.f, m.r), Y: m.r/m.g.Cols*1024 + chance.Below(1024, m.g.Seed, 5, m.f, m.r), Health: 1})
	}
	s := api.Region{Frame: m.f + 1}
	for _, id := range m.ids(0) {
		e := m.all[id]
		if to := e.Y/1024*m.g.Cols + e.X/1024; to != m.r {
			m.out = append(m.out, api.Cross{Kind: 1, From: m.r, To: to, Frame: m.f, Entity: *e})
		} else {
			s.Entities = append(s.Entities, *e)
		}
	}
	slices.SortStableFunc(m.out, func(a, b api.Cross) int {
		return slices.Compare([]int{a.To, a.Kind, a.Entity.Id, a.X, a.Y}, []int{b.To, b.Kind, b.Entity.Id, b.X, b.Y})
	})
	return s, m.out
}

func (m *model) steer(inputs []api.Input) {
	for _, id := range m.ids(1) {
		e, i := m.all[id], inputs[id-1]
		e.Vx, e.Vy = 32*i.Dx, 32*i.Dy
		switch {
		case i.Fire && e.Age == 0 && m.room():
			e.Age = 6
			vx, vy := 160*sign(i.Dx), 160*sign(i.Dy)
			if vx == 0 && vy == 0 {
				vx = 160
			}
			m.new(api.Entity{Kind: 2, X: e.X, Y: e.Y, Vx: vx, Vy: vy, Health: 1, Owner: id})
		case e.Age > 0:
			e.Age--
		}
	}
}

func (m *model) move() {
	w, h := m.g.Cols*1024, m.g.Rows*1024
	for id, e := range m.all {
		e.X, e.Y = e.X+e.Vx, e.Y+e.Vy
		switch e.Kind {
		case 1:
			e.X, e.Y = min(max(e.X, 0), w-1), min(max(e.Y, 0), h-1)
		case 2:
			e.Age++
			if e.Age > 12 || e.X < 0 || e.Y < 0 || e.X >= w || e.Y >= h {
				delete(m.all, id)
			}
		}
	}
}

func (m *model) meet(inbox []api.Cross) {
	for _, kind := range []int{2, 3} {
		for _, id := range m.ids(kind) {
			e := m.all[id]
			for _, p := range m.ids(1) {
				if kind == 2 && p != e.Owner && in(e, m.all[p], 24) {
					m.all[p].Health -= 20
					delete(m.all, id)
					break
				}
				if kind == 3 && in(e, m.all[p], 32) {
					m.all[p].Health = min(100, m.all[p].Health+25)
					delete(m.all, id)
					break
				}
			}
		}
	}
	for _, x := range inbox {
		for _, p := range m.ids(1) {
			if x.Kind == 2 && in(m.all[p], &api.Entity{X: x.X, Y: x.Y}, 128) {
				m.all[p].Health -= 10
			}
		}
	}
}

func (m *model) fall() {
	for _, id := range m.ids(1) {
		e := m.all[id]
		if e.Health > 0 {
			continue
		}
		for to := range m.g.Cols * m.g.Rows {
			dc, dr := to%m.g.Cols-m.r%m.g.Cols, to/m.g.Cols-m.r/m.g.Cols
			if max(dc, -dc, dr, -dr) <= 1 {
				m.out = append(m.out, api.Cross{Kind: 2, From: m.r, To: to, Frame: m.f, X: e.X, Y: e.Y})
			}
		}
		*e = api.Entity{Id: id, Kind: 1, Health: 100, X: m.r%m.g.Cols*1024 + chance.Below(1024, m.g.Seed, 1, m.f, id), Y: m.r/m.g.Cols*1024 + chance.Below(1024, m.g.Seed, 2, m.f, id)}
	}
}

// dice throws numbers that are the same in each run.
type dice struct {
	seed uint64
	n    int
}

func (d *dice) below(n int) int {
	d.n++
	return chance.Below(n, d.seed, d.n)
}

// one is one of l.
func (d *dice) one(l ...int) int { return l[d.below(len(l))] }

// spot is a place in a region; most of them are close together, or at its edges.
func (d *dice) spot(g grid.Grid, r int) (int, int) {
	x, y := g.Corner(r)
	off := func() int {
		switch d.below(4) {
		case 0:
			return d.below(1024)
		case 1:
			return d.one(0, 1, 31, 32, 63, 159, 160, 863, 864, 960, 991, 992, 1022, 1023)
		}
		return 480 + d.below(80)
	}
	return x + off(), y + off()
}

func (d *dice) player(g grid.Grid, r, id int) api.Entity {
	x, y := d.spot(g, r)
	return api.Entity{Id: id, Kind: 1, X: x, Y: y, Vx: d.below(129) - 64, Vy: d.below(129) - 64, Health: d.one(1, 5, 10, 11, 20, 21, 50, 76, 100), Age: d.one(0, 0, 0, 1, 6)}
}

// thing is a shot or a gem; its number may be one that is made in this frame.
func (d *dice) thing(g grid.Grid, r, f int) api.Entity {
	x, y := d.spot(g, r)
	id := first(g, r, f) + d.below(12)
	if d.below(4) > 0 {
		id = 1000 + d.below(5000)
	}
	if d.below(6) == 0 {
		return gem(id, x, y)
	}
	v := [][2]int{{160, 0}, {-160, 0}, {0, 160}, {0, -160}, {160, 160}, {-160, -160}, {160, -160}, {-160, 160}}[d.below(8)]
	return api.Entity{Id: id, Kind: 2, X: x, Y: y, Vx: v[0], Vy: v[1], Health: 1, Age: d.below(13), Owner: 1 + d.below(6)}
}

// call is one that is not refused, with much in it.
func (d *dice) call(g grid.Grid) call {
	c := call{g: g, r: d.below(g.Regions()), inputs: d.inputs()}
	c.s.Frame = 1 + d.below(9_999)
	crowd := d.one(0, 3, 8, 20, 24, 30)
	for id := 1; id <= 6; id++ {
		if d.below(2) == 0 {
			c.s.Entities = entity.Put(c.s.Entities, d.player(g, c.r, id))
		}
	}
	for range crowd {
		if entity.Things(c.s.Entities) < 24 {
			c.s.Entities = entity.Put(c.s.Entities, d.thing(g, c.r, c.s.Frame))
		}
	}
	near := g.Near(c.r)
	for range d.one(0, 0, 2, 6) {
		from := near[d.below(len(near))]
		e := d.thing(g, c.r, c.s.Frame)
		if d.below(2) == 0 {
			e = d.player(g, c.r, 1+d.below(6))
		}
		x := hand(from, c.r, c.s.Frame-1, e)
		if from == c.r || d.below(3) == 0 {
			px, py := d.spot(g, from)
			x = blast(from, c.r, c.s.Frame-1, px, py)
		}
		c.inbox = append(c.inbox, x)
	}
	return c
}

func (d *dice) inputs() []api.Input {
	l := none()
	for i := range l {
		l[i] = api.Input{Dx: d.below(5) - 2, Dy: d.below(5) - 2, Fire: d.below(2) == 0}
	}
	return l
}

// TestModel: many regions, held against the tests' own count.
func TestModel(t *testing.T) {
	d := &dice{seed: 9}
	falls, overs, full, taken := 0, 0, 0, 0
	for i := range 6000 {
		g := arena(t, 1+i%4, 1+i/4%4)
		g.Seed = uint64(i)
		c := d.call(g)
		want, out := modelStep(c)
		checkStep(t, c, want, out, api.OK)
		if t.Failed() {
			return
		}
		if !Right(g, c.r, want) || !sortedOut(g, c.r, c.s.Frame, out) {
			t.Fatalf("P9.2: what comes out of %+v is not right: %+v, %+v", c, want, out)
		}
		for _, x := range out {
			if x.Kind == api.Blast && x.To == c.r {
				falls++
			}
			if x.Kind == api.Handoff {
				overs++
			}
		}
		arrived := Arrive(g, c.r, c.s, c.inbox...)
		if entity.Things(arrived) == 24 {
			full++
		}
		if entity.Find(arrived, first(g, c.r, c.s.Frame)) >= 0 {
			taken++
		}
	}
	if falls < 100 || overs < 100 || full < 100 || taken < 100 {
		t.Errorf("the count asks too little: %d fell, %d left, %d regions were full, %d numbers were there", falls, overs, full, taken)
	}
}

// TestWhole: all regions of an arena, frame by frame: what comes out is right, goes to a near region, and each player is there just once.
func TestWhole(t *testing.T) {
	for _, g := range []grid.Grid{arena(t, 1, 1), arena(t, 2, 1), arena(t, 3, 3), arena(t, 4, 4)} {
		d := &dice{seed: 4}
		n := g.Regions()
		states, outs := make([]api.Region, n), make([][]api.Cross, n)
		for id := 1; id <= 6; id++ {
			r := id % n
			states[r].Entities = entity.Put(states[r].Entities, d.player(g, r, id))
		}
		for f := range 250 {
			inputs := d.inputs()
			next := make([][]api.Cross, n)
			all := cross.Sort(outs...)
			for r := range n {
				c := call{g, r, states[r], inputs, cross.To(all, r)}
				want, out := modelStep(c)
				checkStep(t, c, want, out, api.OK)
				states[r], next[r] = want, out
				if !Right(g, r, want) || !sortedOut(g, r, f, out) {
					t.Errorf("P9.2: what comes out is not right: %+v, %+v", want, out)
				}
			}
			outs = next
			if all := everybody(states, outs); t.Failed() || !slices.Equal(all, []int{1, 2, 3, 4, 5, 6}) {
				t.Fatalf("W2: the players %v are there behind the frame %d", all, f)
			}
		}
	}
}

// everybody is the numbers of the players in the regions, and under way, rising.
func everybody(states []api.Region, outs [][]api.Cross) []int {
	var ids []int
	for r, s := range states {
		ids = append(ids, players(s.Entities)...)
		for _, c := range outs[r] {
			if c.Kind == api.Handoff && c.Entity.Kind == api.Player {
				ids = append(ids, c.Entity.Id)
			}
		}
	}
	slices.Sort(ids)
	return ids
}
