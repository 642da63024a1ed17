package acks

import (
	"math"
	"slices"
	"testing"

	"conduit/api"
)

// three waits, the second one late at 5, the third one tried as often as may be.
func three() []api.Sent { return []api.Sent{sent(7, 1, 4, 0), sent(3, 2, 9, 4), sent(5, 3, 6, 0)} }

// P24.2: the one with that number goes, and the others stay in their order as they were.
func TestAckTurns(t *testing.T) {
	for i, c := range []struct {
		l    []api.Sent
		id   int64
		err  api.Errno
		left []int64
	}{
		{nil, 0, api.ErrNobody, nil},
		{[]api.Sent{}, 1, api.ErrNobody, nil},
		{three(), 7, api.OK, []int64{3, 5}},
		{three(), 3, api.OK, []int64{7, 5}},
		{three(), 5, api.OK, []int64{7, 3}},
		{three(), 0, api.ErrNobody, []int64{7, 3, 5}},
		{three(), 1, api.ErrNobody, []int64{7, 3, 5}},
		{three(), 4, api.ErrNobody, []int64{7, 3, 5}},
		{three(), -7, api.ErrNobody, []int64{7, 3, 5}},
		{three(), 7 + 1<<32, api.ErrNobody, []int64{7, 3, 5}},
		{three(), math.MinInt64, api.ErrNobody, []int64{7, 3, 5}},
		{three(), math.MaxInt64, api.ErrNobody, []int64{7, 3, 5}},
		{[]api.Sent{sent(0, 1, 1, 0)}, 0, api.OK, nil},
		{[]api.Sent{sent(-4, 1, 1, 0)}, -4, api.OK, nil},
		{[]api.Sent{sent(math.MinInt64, 1, 1, 0), sent(math.MaxInt64, 1, 1, 0)}, math.MaxInt64, api.OK, []int64{math.MinInt64}},
	} {
		if got, e := ackAsSaid(t, c.l, c.id); e != c.err || !slices.Equal(idsOf(msgsOf(got)), c.left) {
			t.Errorf("%d: %s, %v", i, show(got), e)
		}
	}
}

// P24.3: its Due is now, sooner or later than it was; its tries, the others and the order stay.
func TestNackTurns(t *testing.T) {
	for i, c := range []struct {
		id   int64
		now  int64
		err  api.Errno
		dues []int64
	}{
		{7, 2, api.OK, []int64{2, 9, 6}},
		{7, 0, api.OK, []int64{0, 9, 6}},
		{7, 4, api.OK, []int64{4, 9, 6}},
		{7, 5, api.OK, []int64{5, 9, 6}},
		{7, api.MaxTick, api.OK, []int64{api.MaxTick, 9, 6}},
		{3, 4, api.OK, []int64{4, 4, 6}},
		{3, 5, api.OK, []int64{4, 5, 6}},
		{5, 1, api.OK, []int64{4, 9, 1}},
		{0, 1, api.ErrNobody, []int64{4, 9, 6}},
		{4, 1, api.ErrNobody, []int64{4, 9, 6}},
		{-3, 1, api.ErrNobody, []int64{4, 9, 6}},
		{3 + 1<<32, 1, api.ErrNobody, []int64{4, 9, 6}},
		{math.MaxInt64, 1, api.ErrNobody, []int64{4, 9, 6}},
	} {
		got, e := nackAsSaid(t, three(), c.id, c.now)
		want := three()
		for k, due := range c.dues {
			want[k].Due = due
		}
		if e != c.err || !same(got, want) {
			t.Errorf("%d: %s, %v", i, show(got), e)
		}
	}
	if l, e := nackAsSaid(t, nil, 0, 3); e != api.ErrNobody || len(l) != 0 {
		t.Error(show(l), e)
	}
}

// P24.2, P24.3: each of as many as may wait.
func TestAckGreat(t *testing.T) {
	l := upTo(api.MaxSent)
	for id := int64(-1); id <= api.MaxSent; id++ {
		want := api.OK
		if id < 0 || id == api.MaxSent {
			want = api.ErrNobody
		}
		_, e := ackAsSaid(t, l, id)
		_, nackE := nackAsSaid(t, l, id, 55)
		if e != want || nackE != want {
			t.Fatal(id, e, nackE)
		}
	}
}

// P24.2, P24.3: any lists, with something in each field.
func TestAckRandom(t *testing.T) {
	r := newRandom(2)
	count := map[api.Errno]int{}
	for range 40000 {
		l := randomList(r, randomPolicy(r), 8)
		id := randomId(r, l)
		_, e := ackAsSaid(t, l, id)
		if _, nackE := nackAsSaid(t, l, id, randomTick(r)); nackE != e {
			t.Fatal(show(l), id, e, nackE)
		}
		count[e]++
	}
	if min(count[api.OK], count[api.ErrNobody]) < 1000 {
		t.Error(count)
	}
}
