package queue

import (
	"math"
	"slices"
	"testing"

	"conduit/api"
)

// P19.1: what goes and who waits, in which order, where there is room and where there is none.
func TestPutTurns(t *testing.T) {
	const last = 9 // the number of the message that is put
	for i, c := range []struct {
		prios      []int
		room, drop int
		prio       int
		stay       []int64
		gone       int64
		err        api.Errno
	}{
		{nil, 1, api.DropNone, 0, []int64{last}, 0, api.OK},
		{nil, 1, api.DropNew, -3, []int64{last}, 0, api.OK},
		{nil, 1, api.DropOld, math.MinInt, []int64{last}, 0, api.OK},
		{[]int{1, 1}, 3, api.DropOld, 0, []int64{1, 2, last}, 0, api.OK},
		{[]int{1, 1}, 3, api.DropNew, 5, []int64{1, 2, last}, 0, api.OK},
		{[]int{1, 1}, 3, api.DropNone, 5, []int64{1, 2, last}, 0, api.OK},
		{[]int{1, 1}, 3, 77, 5, []int64{1, 2, last}, 0, api.OK},
		{[]int{1, 1}, api.MaxInbox, api.DropNone, 5, []int64{1, 2, last}, 0, api.OK},
		{[]int{1, 1}, 2, api.DropNone, 5, []int64{1, 2}, 0, api.ErrFull},
		{[]int{1, 1}, 2, -1, 5, []int64{1, 2}, 0, api.ErrFull},
		{[]int{1, 1}, 2, 3, 5, []int64{1, 2}, 0, api.ErrFull},
		{[]int{1, 1}, 2, math.MinInt, 5, []int64{1, 2}, 0, api.ErrFull},
		{[]int{1, 1}, 2, math.MaxInt, 5, []int64{1, 2}, 0, api.ErrFull},
		{[]int{1, 1}, 2, api.DropNew, 5, []int64{1, 2}, last, api.OK},
		{[]int{1, 1}, 2, api.DropNew, 0, []int64{1, 2}, last, api.OK},
		{[]int{1}, 1, api.DropOld, 0, []int64{1}, last, api.OK},
		{[]int{1}, 1, api.DropOld, 1, []int64{last}, 1, api.OK},
		{[]int{1}, 1, api.DropOld, 2, []int64{last}, 1, api.OK},
		{[]int{1, 1, 1}, 3, api.DropOld, 1, []int64{2, 3, last}, 1, api.OK},
		{[]int{2, 1, 1}, 3, api.DropOld, 1, []int64{1, 3, last}, 2, api.OK},
		{[]int{3, 2, 1}, 3, api.DropOld, 1, []int64{1, 2, last}, 3, api.OK},
		{[]int{3, 2, 1}, 3, api.DropOld, 0, []int64{1, 2, 3}, last, api.OK},
		{[]int{0, -1, -1, 0}, 4, api.DropOld, -1, []int64{1, 3, 4, last}, 2, api.OK},
		{[]int{math.MaxInt, math.MinInt}, 2, api.DropOld, 0, []int64{1, last}, 2, api.OK},
		{[]int{math.MaxInt, 1}, 2, api.DropOld, math.MinInt, []int64{1, 2}, last, api.OK},
		{[]int{1, math.MaxInt}, 2, api.DropOld, math.MaxInt, []int64{2, last}, 1, api.OK},
		// More wait than there is room for: one goes, no more.
		{[]int{2, 1, 3}, 1, api.DropOld, 2, []int64{1, 3, last}, 2, api.OK},
		{[]int{2, 1, 3}, 1, api.DropNew, 2, []int64{1, 2, 3}, last, api.OK},
		{[]int{2, 1, 3}, 1, api.DropNone, 2, []int64{1, 2, 3}, 0, api.ErrFull},
	} {
		q, m := of(c.prios...), plain(last, c.prio)
		a := putAsSaid(t, q, c.room, c.drop, m)
		if !slices.Equal(idsOf(a.q.Msgs), c.stay) || a.gone.Id != c.gone || a.goes != (c.gone != 0) || a.err != c.err {
			t.Errorf("%d: %s", i, a.show())
		}
		refused, dropped := a.q.Refused-q.Refused, a.q.Dropped-q.Dropped
		if refused != count(c.err == api.ErrFull) || dropped != count(c.gone != 0) {
			t.Errorf("%d: %s", i, a.show())
		}
	}
}

func count(is bool) int64 {
	if is {
		return 1
	}
	return 0
}

// rowsOf calls f with each row of so many priorities from -1 on.
func rowsOf(long, prios int, f func(row []int)) {
	row := make([]int, long)
	var fill func(at int)
	fill = func(at int) {
		if at == long {
			f(row)
			return
		}
		for p := range prios {
			row[at] = p - 1
			fill(at + 1)
		}
	}
	fill(0)
}

// P19.1: small inboxes, all of them.
func TestPutSmall(t *testing.T) {
	for long := range 6 {
		rowsOf(long, 3, func(row []int) {
			q := of(row...)
			for prio := -2; prio < 3; prio++ {
				for drop := -1; drop < 5; drop++ {
					for room := 1; room < 7; room++ {
						putAsSaid(t, q, room, drop, plain(9, prio))
					}
				}
			}
		})
	}
}

// P19.1: as many as an inbox has room for at most, and one short of it; the one that goes at each of some places.
func TestPutGreat(t *testing.T) {
	for _, long := range []int{api.MaxInbox - 1, api.MaxInbox} {
		for _, at := range []int{0, 1, 2, 510, 511, 512, long - 2, long - 1} {
			prios := make([]int, long)
			prios[at] = -1
			for prio := -2; prio < 2; prio++ {
				for _, room := range []int{long - 1, long, api.MaxInbox} {
					for _, drop := range []int{api.DropNew, api.DropOld, api.DropNone} {
						putAsSaid(t, of(prios...), room, drop, plain(5000, prio))
					}
				}
			}
		}
	}
}

// P19.1: counts come to their bound and one past it.
func TestPutCounts(t *testing.T) {
	q := of(1)
	q.Refused, q.Dropped = mostCount, mostCount
	for drop := range 4 {
		putAsSaid(t, q, 1, drop, plain(9, 0))
		putAsSaid(t, q, 2, drop, plain(9, 0))
	}
}

// P19.1: any messages, with something in each field.
func TestPutRandom(t *testing.T) {
	r := newRandom(1)
	waits, refused, itself, other := 0, 0, 0, 0
	for range 50000 {
		most := 1 + pick(r, r.IntN(4), r.IntN(20))
		m := randomMsg(r)
		a := putAsSaid(t, randomInbox(r, most), most, randomDrop(r), m)
		switch {
		case a.err != api.OK:
			refused++
		case !a.goes:
			waits++
		case sameMsg(a.gone, m):
			itself++
		default:
			other++
		}
	}
	if min(waits, refused, itself, other) < 1000 {
		t.Errorf("%d wait, %d were refused, %d went, for %d another one did", waits, refused, itself, other)
	}
}
