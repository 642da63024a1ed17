package queue

import (
	"math"
	"slices"
	"testing"

	"conduit/api"
)

// P19.2: the greatest priority, of several the first; the others stay in their order; counts stay.
func TestTakeTurns(t *testing.T) {
	for i, c := range []struct {
		prios []int
		id    int64
		stay  []int64
	}{
		{nil, 0, nil},
		{[]int{0}, 1, nil},
		{[]int{math.MinInt}, 1, nil},
		{[]int{1, 1, 1}, 1, []int64{2, 3}},
		{[]int{1, 2, 2}, 2, []int64{1, 3}},
		{[]int{1, 2, 3}, 3, []int64{1, 2}},
		{[]int{3, 2, 3}, 1, []int64{2, 3}},
		{[]int{-3, -2, -2, -3}, 2, []int64{1, 3, 4}},
		{[]int{math.MinInt, math.MaxInt, 0}, 2, []int64{1, 3}},
		{[]int{math.MinInt, -1}, 2, []int64{1}},
		{[]int{0, 4, 1, 4, 2, 5, 5, 3}, 6, []int64{1, 2, 3, 4, 5, 7, 8}},
	} {
		q, m, ok := takeAsSaid(t, of(c.prios...))
		if m.Id != c.id || ok != (c.id != 0) || !slices.Equal(idsOf(q.Msgs), c.stay) || q.Refused != 7 || q.Dropped != 40 {
			t.Errorf("%d: %s; %d, %v", i, show(q), m.Id, ok)
		}
	}
}

// P19.2: an empty inbox, nil or not, comes out as it went in, with its counts.
func TestTakeNone(t *testing.T) {
	for _, l := range [][]api.Msg{nil, {}, make([]api.Msg, 0, 5), of(1, 2).Msgs[:0]} {
		q, m, ok := takeAsSaid(t, api.Inbox{Msgs: l, Refused: 3, Dropped: mostCount})
		if ok || !sameMsg(m, api.Msg{}) || len(q.Msgs) != 0 || q.Refused != 3 || q.Dropped != mostCount {
			t.Error(show(q), m, ok)
		}
	}
}

// takenAll takes until there is none left.
func takenAll(t testing.TB, q api.Inbox) (out []api.Msg) {
	t.Helper()
	for {
		next, m, ok := takeAsSaid(t, q)
		if !ok {
			return out
		}
		out = append(out, m)
		q = next
	}
}

// P19.2: small inboxes, all of them, one after another until none is left.
func TestTakeSmall(t *testing.T) {
	for long := range 8 {
		rowsOf(long, 3, func(row []int) { takenAll(t, of(row...)) })
	}
}

// P19.2: a full inbox of the greatest room.
func TestTakeGreat(t *testing.T) {
	r := newRandom(2)
	for range 3 {
		prios := make([]int, api.MaxInbox)
		for i := range prios {
			prios[i] = r.IntN(1 << r.IntN(12))
		}
		q := of(prios...)
		for range 200 {
			q, _, _ = takeAsSaid(t, q)
		}
	}
}

// P19.2: any messages, with something in each field.
func TestTakeRandom(t *testing.T) {
	r := newRandom(3)
	for range 50000 {
		takeAsSaid(t, randomInbox(r, r.IntN(12)))
	}
}
