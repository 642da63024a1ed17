package reply

import (
	"math"
	"slices"
	"testing"

	"conduit/api"
)

// P23.3: 0 is for ever; the tick itself is in time, the one behind it is not; those that expire are told in their order, not by their ticks.
func TestExpireTurns(t *testing.T) {
	for i, c := range []struct {
		st   api.Asks
		now  int64
		late []int64
		left []int64
	}{
		{until(), 5, nil, nil},
		{until(0), 0, nil, []int64{1}},
		{until(0), 5, nil, []int64{1}},
		{until(0, 0), api.MaxTick, nil, []int64{1, 2}},
		{until(0, 0), math.MaxInt64, nil, []int64{1, 2}},
		{until(5), 0, nil, []int64{1}},
		{until(5), 4, nil, []int64{1}},
		{until(5), 5, nil, []int64{1}},
		{until(5), 6, []int64{1}, nil},
		{until(5), -1, nil, []int64{1}},
		{until(5), math.MinInt64, nil, []int64{1}},
		{until(5), math.MaxInt64, []int64{1}, nil},
		{until(1), 1, nil, []int64{1}},
		{until(1), 2, []int64{1}, nil},
		{until(api.MaxTick), api.MaxTick, nil, []int64{1}},
		{until(api.MaxTick - 1), api.MaxTick, []int64{1}, nil},
		{until(4, 0, 5, 3), 5, []int64{1, 4}, []int64{2, 3}},
		{until(9, 1, 8, 2, 7, 3), 7, []int64{2, 4, 6}, []int64{1, 3, 5}},
		{until(3, 2, 1), 9, []int64{1, 2, 3}, nil},
		{three(), 6, []int64{2}, []int64{5, 9}},
		{three(), 8, []int64{2, 9}, []int64{5}},
	} {
		got, late := expireAsSaid(t, c.st, c.now)
		if !slices.Equal(corrsOf(late), c.late) || !slices.Equal(corrsOf(got.Wait), c.left) || got.Next != c.st.Next {
			t.Errorf("%d: %s; %v", i, show(got), late)
		}
	}
}

// P23.3: small states, all of them.
func TestExpireSmall(t *testing.T) {
	for long := range 6 {
		eachRow(long, 5, func(row []int64) {
			for now := int64(-2); now < 6; now++ {
				expireAsSaid(t, until(row...), now)
			}
		})
	}
}

// P23.3: any states, of as many as may wait too.
func TestExpireRandom(t *testing.T) {
	r := newRandom(3)
	none, some, all := 0, 0, 0
	for range 30000 {
		left, late := expireAsSaid(t, randomState(r, 1+r.IntN(12)), randomTick(r))
		switch {
		case len(late) == 0:
			none++
		case len(left.Wait) > 0:
			some++
		default:
			all++
		}
	}
	if min(none, some, all) < 1000 {
		t.Errorf("none expired %d times, some %d, all %d", none, some, all)
	}
	for range 50 {
		expireAsSaid(t, randomState(r, api.MaxAsks), randomTick(r))
	}
}
