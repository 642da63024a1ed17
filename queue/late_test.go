package queue

import (
	"math"
	"slices"
	"testing"

	"conduit/api"
)

// until is an inbox of messages 1, 2, 3 .. of use until these ticks.
func until(ticks ...int64) api.Inbox {
	q := of()
	for i, tick := range ticks {
		m := plain(int64(i+1), i%3)
		m.Until = tick
		q.Msgs = append(q.Msgs, m)
	}
	return q
}

// P19.3: 0 is for ever; the tick itself is in time, the one behind it is not; priorities play no part.
func TestLateTurns(t *testing.T) {
	for i, c := range []struct {
		q    api.Inbox
		now  int64
		late []int64
		stay []int64
	}{
		{until(), 5, nil, nil},
		{until(0), 0, nil, []int64{1}},
		{until(0), 5, nil, []int64{1}},
		{until(0, 0), api.MaxTick, nil, []int64{1, 2}},
		{until(0, 0), math.MaxInt64, nil, []int64{1, 2}},
		{until(5), 0, nil, []int64{1}},
		{until(5), 4, nil, []int64{1}},
		{until(5), 5, nil, []int64{1}},
		{until(5), 6, []int64{1}, nil},
		{until(1), 1, nil, []int64{1}},
		{until(1), 2, []int64{1}, nil},
		{until(api.MaxTick), api.MaxTick, nil, []int64{1}},
		{until(api.MaxTick - 1), api.MaxTick, []int64{1}, nil},
		{until(4, 0, 5, 3), 5, []int64{1, 4}, []int64{2, 3}},
		{until(9, 1, 8, 2, 7, 3), 7, []int64{2, 4, 6}, []int64{1, 3, 5}},
		{until(3, 2, 1), 9, []int64{1, 2, 3}, nil},
		// What is no tick is held against now all the same.
		{until(-1), 0, []int64{1}, nil},
		{until(-1), -1, nil, []int64{1}},
		{until(math.MinInt64), math.MaxInt64, []int64{1}, nil},
		{until(math.MaxInt64), math.MinInt64, nil, []int64{1}},
	} {
		q, late := lateAsSaid(t, c.q, c.now)
		if !slices.Equal(idsOf(late), c.late) || !slices.Equal(idsOf(q.Msgs), c.stay) {
			t.Errorf("%d: %s; %v", i, show(q), idsOf(late))
		}
		if q.Refused != 7 || q.Dropped != 40+int64(len(c.late)) {
			t.Errorf("%d: %s", i, show(q))
		}
	}
}

// P19.3: small inboxes, all of them.
func TestLateSmall(t *testing.T) {
	for long := range 6 {
		rowsOf(long, 5, func(row []int) {
			ticks := make([]int64, long)
			for i, n := range row {
				ticks[i] = int64(n)
			}
			for now := int64(-2); now < 6; now++ {
				lateAsSaid(t, until(ticks...), now)
			}
		})
	}
}

// P19.3: any messages, with something in each field; of a full inbox too, with counts at their bound.
func TestLateRandom(t *testing.T) {
	r := newRandom(4)
	none, some, all := 0, 0, 0
	for range 30000 {
		q := randomInbox(r, 1+r.IntN(12))
		rest, late := lateAsSaid(t, q, randomTick(r))
		switch {
		case len(late) == 0:
			none++
		case len(rest.Msgs) > 0:
			some++
		default:
			all++
		}
	}
	if min(none, some, all) < 1000 {
		t.Errorf("none were late %d times, some %d, all %d", none, some, all)
	}
	ticks := make([]int64, api.MaxInbox)
	for i := range ticks {
		ticks[i] = r.Int64N(10)
	}
	for now := range int64(12) {
		q := until(ticks...)
		q.Dropped = mostCount
		lateAsSaid(t, q, now)
	}
}
