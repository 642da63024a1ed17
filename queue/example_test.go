package queue

import (
	"testing"

	"conduit/api"
)

// The chapter's example 1.
func TestExampleOld(t *testing.T) {
	const room = 2
	var q api.Inbox
	for _, c := range []struct {
		id   int64
		prio int
		gone int64
	}{{1, 1, 0}, {2, 5, 0}, {3, 3, 1}, {4, 0, 4}} {
		a := putAsSaid(t, q, room, api.DropOld, plain(c.id, c.prio))
		if a.gone.Id != c.gone || a.goes != (c.gone != 0) || a.err != api.OK {
			t.Error(c.id, a.show())
		}
		q = a.q
	}
	if q.Dropped != 2 || q.Refused != 0 {
		t.Error(show(q))
	}
	for _, id := range []int64{2, 3} {
		x, m, ok := takeAsSaid(t, q)
		if m.Id != id || !ok {
			t.Error(m.Id, ok)
		}
		q = x
	}
	if _, m, ok := takeAsSaid(t, q); ok || !sameMsg(m, api.Msg{}) {
		t.Error(m, ok)
	}
}

// The chapter's example 2.
func TestExampleFull(t *testing.T) {
	q := api.Inbox{Msgs: []api.Msg{plain(1, 1), plain(2, 5)}}
	a := putAsSaid(t, q, 2, api.DropNone, plain(3, 9))
	if a.err != api.ErrFull || a.q.Refused != 1 || a.q.Dropped != 0 || a.goes || !sameMsg(a.gone, api.Msg{}) {
		t.Error(a.show())
	}
	a = putAsSaid(t, q, 2, api.DropNew, plain(3, 9))
	if a.err != api.OK || a.q.Refused != 0 || a.q.Dropped != 1 || !a.goes || !sameMsg(a.gone, plain(3, 9)) {
		t.Error(a.show())
	}
}
