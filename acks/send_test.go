package acks

import (
	"math"
	"slices"
	"testing"

	"conduit/api"
)

// P24.1: it waits behind all others, with one try, until the first wait is over, whatever else waits and however late it is itself.
func TestSendTurns(t *testing.T) {
	two := []api.Sent{sent(5, 3, 9, 1), sent(2, 1, 0, 0)}
	for i, c := range []struct {
		l   []api.Sent
		m   api.Msg
		p   api.Policy
		now int64
		err api.Errno
		due int64
	}{
		{nil, plain(1), policy, 0, api.OK, 2},
		{[]api.Sent{}, plain(0), policy, 7, api.OK, 9},
		{nil, plain(-1), api.Policy{Tries: 1, Base: 1, Most: 1}, 7, api.OK, 8},
		{nil, plain(math.MinInt64), api.Policy{Tries: 16, Base: 1, Most: mostTicks}, 7, api.OK, 8},
		{nil, plain(math.MaxInt64), api.Policy{Tries: 16, Base: mostTicks, Most: mostTicks}, api.MaxTick, api.OK, api.MaxTick + mostTicks},
		{nil, sent(1, 0, 0, 3).Msg, policy, 9, api.OK, 11},
		{two, plain(1), policy, 4, api.OK, 6},
		{two, plain(9), policy, 4, api.OK, 6},
		{two, plain(0), policy, 4, api.OK, 6},
		{two, plain(-5), policy, 4, api.OK, 6},
		{two, plain(5 + 1<<32), policy, 4, api.OK, 6},
		{two, plain(5), policy, 4, api.ErrTwice, 0},
		{two, plain(2), policy, 4, api.ErrTwice, 0},
		// What is late or was given up waits until Due says so.
		{two, plain(5), policy, 99, api.ErrTwice, 0},
		// Its number alone is held against others.
		{two, api.Msg{Id: 5, Topic: "other", Corr: 3}, policy, 4, api.ErrTwice, 0},
	} {
		got, e := sendAsSaid(t, c.l, c.m, c.p, c.now)
		want := slices.Clone(c.l)
		if c.err == api.OK {
			want = append(want, api.Sent{Msg: c.m, Tries: 1, Due: c.due})
		}
		if e != c.err || !same(got, want) {
			t.Errorf("%d: %s, %v", i, show(got), e)
		}
	}
}

// P24.1: as many as may wait, one short of it; where there is no room ErrFull goes ahead of ErrTwice.
func TestSendGreat(t *testing.T) {
	for _, id := range []int64{-1, 0, 500, api.MaxSent - 2, api.MaxSent - 1, api.MaxSent, api.MaxSent + 1} {
		l, e := sendAsSaid(t, upTo(api.MaxSent-1), plain(id), policy, 3)
		if waits := id >= 0 && id < api.MaxSent-1; waits != (e == api.ErrTwice) || waits == (len(l) == api.MaxSent) {
			t.Error(id, len(l), e)
		}
		if l, e := sendAsSaid(t, upTo(api.MaxSent), plain(id), policy, 3); e != api.ErrFull || len(l) != api.MaxSent {
			t.Error(id, len(l), e)
		}
	}
}

// P24.1: any messages, with something in each field.
func TestSendRandom(t *testing.T) {
	r := newRandom(1)
	count := map[api.Errno]int{}
	for range 40000 {
		p := randomPolicy(r)
		l := randomList(r, p, 8)
		_, e := sendAsSaid(t, l, randomMsg(r, randomId(r, l)), p, randomTick(r))
		count[e]++
	}
	if min(count[api.OK], count[api.ErrTwice]) < 1000 {
		t.Error(count)
	}
}
