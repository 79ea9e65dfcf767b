package region

import (
	"joust/api"
	"joust/chance"
	"joust/entity"
	"joust/grid"
	"joust/hitting"
	"joust/moving"
)

// What a chance is asked for; it is the first one of its numbers, so that no two chances of a frame hang together.
const (
	raisedX = 1
	raisedY = 2
	gemOdds = 3
	gemX    = 4
	gemY    = 5
)

// turn is a region on its way through one frame: its list as far as it has come, how many things it made, and what goes out.
type turn struct {
	grid.Grid
	region, frame int
	list          []api.Entity
	made          int
	out           []api.Cross
}

// room: may one more thing be made?
func (t *turn) room() bool {
	return t.made < api.MaxNew && entity.Things(t.list) < api.MaxThings
}

// number is that of the next new thing: each frame of each region has MaxNew numbers of its own.
func (t *turn) number() int {
	return api.FirstThing + (t.frame*t.Regions()+t.region)*api.MaxNew + t.made
}

// add puts a new thing into the list. One whose number is there counts too, so that the next one has another number.
func (t *turn) add(thing api.Entity) {
	t.list = entity.Put(t.list, thing)
	t.made++
}

// steer lets each player do its input.
func (t *turn) steer(inputs []api.Input) {
	for _, id := range players(t.list) {
		t.act(id, inputs[id-1])
	}
}

// act lets the player id do i. Who finds no room for its shot may shoot in the next frame.
func (t *turn) act(id int, i api.Input) {
	at := entity.Find(t.list, id)
	e, fires := moving.Steer(t.list[at], i)
	if fires && !t.room() {
		e.Age, fires = 0, false
	}
	t.list[at] = e
	if fires {
		t.add(moving.Shoot(e, i, t.number()))
	}
}

// move lets each one go; the new shots too, which begin where their players were.
func (t *turn) move() {
	var left []api.Entity
	for _, e := range t.list {
		if e, is := moving.Go(t.Grid, e); is {
			left = append(left, e)
		}
	}
	t.list = left
}

// hit turns the healths. A gem may save whom a shot would have felled, but a blast comes behind it.
func (t *turn) hit(inbox ...api.Cross) {
	t.list = hitting.Blasts(hitting.Gems(hitting.Shots(t.list)), inbox...)
}

// raise lets those who fell blow up where they are, and stand anew in the region.
func (t *turn) raise() {
	for _, id := range hitting.Fallen(t.list) {
		e := &t.list[entity.Find(t.list, id)]
		for _, to := range t.Near(t.region) {
			t.emit(api.Cross{Kind: api.Blast, To: to, X: e.X, Y: e.Y})
		}
		e.Health, e.Vx, e.Vy, e.Age = api.FullHealth, 0, 0, 0
		e.X, e.Y = t.place(raisedX, raisedY, id)
	}
}

// emit sends c off; all that goes out in this frame is of this region.
func (t *turn) emit(c api.Cross) {
	c.From, c.Frame = t.region, t.frame
	t.out = append(t.out, c)
}

// below is a chance of this frame below n, for what it is asked, and of whom.
func (t *turn) below(n, what, whom int) int {
	return chance.Below(n, t.Seed, what, t.frame, whom)
}

// place is somewhere in the region, by one chance along x and one along y.
func (t *turn) place(alongX, alongY, whom int) (int, int) {
	x, y := t.Corner(t.region)
	return x + t.below(api.Size, alongX, whom), y + t.below(api.Size, alongY, whom)
}

// grow makes a gem now and then.
func (t *turn) grow() {
	if t.below(api.GemOdds, gemOdds, t.region) != 0 || gems(t.list) >= api.MaxGems || !t.room() {
		return
	}
	x, y := t.place(gemX, gemY, t.region)
	t.add(api.Entity{Id: t.number(), Kind: api.Gem, X: x, Y: y, Health: 1})
}

// gems is how many gems there are in l.
func gems(l []api.Entity) int {
	n := 0
	for _, e := range l {
		if e.Kind == api.Gem {
			n++
		}
	}
	return n
}

// leave hands off all who are in another region now.
func (t *turn) leave() {
	var left []api.Entity
	for _, e := range t.list {
		if to := t.Of(e.X, e.Y); to != t.region {
			t.emit(api.Cross{Kind: api.Handoff, To: to, Entity: e})
		} else {
			left = append(left, e)
		}
	}
	t.list = left
}
