package acks

import (
	"testing"

	"conduit/api"
)

// P24.5: the least of all, wherever it stands; one behind Until, where that is not 0.
func TestNextTurns(t *testing.T) {
	for i, c := range []struct {
		l  []api.Sent
		at int64
		ok bool
	}{
		{nil, 0, false},
		{[]api.Sent{}, 0, false},
		{upTo(3)[:0], 0, false},
		{[]api.Sent{sent(1, 1, 0, 0)}, 0, true},
		{[]api.Sent{sent(1, 1, 4, 0)}, 4, true},
		{[]api.Sent{sent(1, 1, 4, 2)}, 3, true},
		{[]api.Sent{sent(1, 1, 4, 3)}, 4, true},
		{[]api.Sent{sent(1, 1, 4, 4)}, 4, true},
		{[]api.Sent{sent(1, 1, 4, 1)}, 2, true},
		{[]api.Sent{sent(1, 1, 4, 0), sent(2, 1, 3, 0), sent(3, 1, 5, 0)}, 3, true},
		{[]api.Sent{sent(1, 1, 3, 0), sent(2, 1, 4, 0), sent(3, 1, 5, 0)}, 3, true},
		{[]api.Sent{sent(1, 1, 5, 0), sent(2, 1, 4, 0), sent(3, 1, 3, 0)}, 3, true},
		{[]api.Sent{sent(1, 1, 5, 0), sent(2, 1, 9, 2), sent(3, 1, 4, 0)}, 3, true},
		{[]api.Sent{sent(1, 1, 5, 9), sent(2, 1, 9, 0), sent(3, 1, 9, 3)}, 4, true},
		{[]api.Sent{sent(1, 3, 5, 0), sent(2, 1, 5, 0)}, 5, true},
		{[]api.Sent{sent(1, 1, 2*api.MaxTick, 0)}, 2 * api.MaxTick, true},
		{[]api.Sent{sent(1, 1, 2*api.MaxTick, api.MaxTick)}, api.MaxTick + 1, true},
	} {
		if at, ok := nextAsSaid(t, c.l); at != c.at || ok != c.ok {
			t.Errorf("%d: %d, %v", i, at, ok)
		}
	}
}

// comesFirst holds a list against P24.9: at Next Due has something, and at no tick ahead of it.
func comesFirst(t testing.TB, l []api.Sent, p api.Policy, ahead ...int64) {
	t.Helper()
	at, ok := nextAsSaid(t, l)
	if !ok {
		at = api.MaxTick + 1
	}
	if ok && at <= api.MaxTick && !due(l, p, at).has() {
		t.Fatalf("%s, %v: Next is %d, where Due has nothing", show(l), p, at)
	}
	for _, now := range append(ahead, 0, at-2, at-1) {
		if now = min(now, at-1, api.MaxTick); now >= 0 && due(l, p, now).has() {
			t.Fatalf("%s, %v: Next is %d, and Due has something at %d", show(l), p, at, now)
		}
	}
}

// P24.5, P24.9: small lists, all of them.
func TestNextSmall(t *testing.T) {
	for long := range 4 {
		eachSmallList(long, 4, 5, func(l []api.Sent) {
			comesFirst(t, l, api.Policy{Tries: 2, Base: 1, Most: 3}, 1, 2, 3)
		})
	}
}

// P24.5, P24.9: any lists; as many as may wait too.
func TestNextRandom(t *testing.T) {
	r := newRandom(4)
	for range 40000 {
		p := randomPolicy(r)
		comesFirst(t, randomList(r, p, 1+r.IntN(6)), p, randomTick(r), randomTick(r))
	}
	for range 30 {
		p := randomPolicy(r)
		comesFirst(t, randomList(r, p, api.MaxSent), p, randomTick(r))
	}
}
