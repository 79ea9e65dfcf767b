package snapshot

import (
	"joust/api"
	"joust/bytes"
)

// most is how many of a list are read at most: a wrong number must not make a long list.
const most = 1000

// writer writes lists, each behind how many it has.
type writer struct{ bytes.Writer }

// entities writes l.
func (w *writer) entities(l []api.Entity) {
	w.Put(len(l))
	for _, e := range l {
		w.entity(e)
	}
}

// messages writes l, of which each must be right: then what is not written of one is 0.
func (w *writer) messages(l []api.Cross) {
	w.Put(len(l))
	for _, c := range l {
		w.message(c)
	}
}

// entity writes the numbers of e.
func (w *writer) entity(e api.Entity) {
	w.Put(e.Id, e.Kind, e.X, e.Y, e.Vx, e.Vy, e.Health, e.Age, e.Owner)
}

// message writes the numbers of c.
func (w *writer) message(c api.Cross) {
	w.Put(c.Kind, c.From, c.To, c.Frame)
	if c.Kind == api.Handoff {
		w.entity(c.Entity)
	} else {
		w.Put(c.X, c.Y)
	}
}

// reader reads what a writer wrote, up to the first thing that is wrong.
type reader struct {
	*bytes.Reader
	strange bool
}

// read is a reader of b.
func read(b []byte) *reader { return &reader{Reader: bytes.Read(b)} }

// Err is the first thing that was wrong: behind a strange message nothing is read, so that what the Reader tells was there ahead of it.
func (r *reader) Err() api.Errno {
	if no := r.Reader.Err(); no != api.OK || !r.strange {
		return no
	}
	return api.ErrForm
}

// end is why what was read is not all that there is; OK, if it is.
func (r *reader) end() api.Errno {
	if r.Err() == api.OK && r.Left() > 0 {
		return api.ErrForm
	}
	return r.Err()
}

// list is the list that stands next, each of it by one; none, once something was wrong.
func list[T any](r *reader, one func() T) []T {
	var l []T
	for n := r.Count(most); len(l) < n && r.Err() == api.OK; {
		l = append(l, one())
	}
	return l
}

// base is the base that stands next.
func (r *reader) base() api.Base {
	frame := r.Int()
	entities := list(r, r.entity)
	return api.Base{State: api.Region{Frame: frame, Entities: entities}, Inbox: list(r, r.message)}
}

// entity is the entity whose numbers stand next, whether it is right or not.
func (r *reader) entity() api.Entity {
	return api.Entity{Id: r.Int(), Kind: r.Int(), X: r.Int(), Y: r.Int(), Vx: r.Int(), Vy: r.Int(), Health: r.Int(), Age: r.Int(), Owner: r.Int()}
}

// message is the message whose numbers stand next, whether it is right or not. One of no Kind is strange: how many numbers it has can't be told.
func (r *reader) message() api.Cross {
	c := api.Cross{Kind: r.Int(), From: r.Int(), To: r.Int(), Frame: r.Int()}
	switch c.Kind {
	case api.Handoff:
		c.Entity = r.entity()
	case api.Blast:
		c.X, c.Y = r.Int(), r.Int()
	default:
		r.strange = true
	}
	return c
}
