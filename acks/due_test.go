package acks

import (
	"slices"
	"testing"

	"conduit/api"
)

// What may become of one that waits.
const (
	stays = iota
	goesAgain
	givenUp
	tooOld
)

// became is which of the four lists has something.
func became(a told) (l []int) {
	for k, n := range []int{len(a.rest) - len(a.again), len(a.again), len(a.dead), len(a.late)} {
		if n > 0 {
			l = append(l, k)
		}
	}
	return l
}

// P24.4: late goes ahead of dead and of again; the tick of Until itself is in time, that of Due is due.
func TestDueTurns(t *testing.T) {
	for i, c := range []struct {
		s    api.Sent
		now  int64
		what int
		due  int64
	}{
		{sent(1, 1, 4, 0), 0, stays, 4},
		{sent(1, 1, 4, 0), 3, stays, 4},
		{sent(1, 1, 4, 0), 4, goesAgain, 8},
		{sent(1, 1, 4, 0), 5, goesAgain, 9},
		{sent(1, 2, 4, 0), 4, goesAgain, 9},
		{sent(1, 2, 4, 0), api.MaxTick, goesAgain, api.MaxTick + 5},
		{sent(1, 3, 4, 0), 3, stays, 4},
		{sent(1, 3, 4, 0), 4, givenUp, 0},
		{sent(1, 3, 4, 0), 5, givenUp, 0},
		{sent(1, 3, 0, 0), 0, givenUp, 0},
		{sent(1, 1, 0, 0), 0, goesAgain, 4},
		{sent(1, 1, 4, 3), 3, stays, 4},
		{sent(1, 1, 4, 3), 4, tooOld, 0},
		{sent(1, 1, 4, 4), 4, goesAgain, 8},
		{sent(1, 1, 4, 4), 5, tooOld, 0},
		{sent(1, 3, 4, 4), 4, givenUp, 0},
		{sent(1, 3, 4, 4), 5, tooOld, 0},
		{sent(1, 3, 4, 3), 4, tooOld, 0},
		{sent(1, 3, 9, 3), 4, tooOld, 0},
		{sent(1, 1, 9, 3), 4, tooOld, 0},
		{sent(1, 1, 9, 1), 2, tooOld, 0},
		{sent(1, 1, 9, 1), 1, stays, 9},
		{sent(1, 1, api.MaxTick, api.MaxTick), api.MaxTick, goesAgain, api.MaxTick + 4},
		{sent(1, 1, api.MaxTick, api.MaxTick-1), api.MaxTick, tooOld, 0},
		{sent(1, 1, api.MaxTick+1, 0), api.MaxTick, stays, api.MaxTick + 1},
		{sent(1, 1, 2*api.MaxTick, 0), api.MaxTick, stays, 2 * api.MaxTick},
	} {
		a := dueAsSaid(t, []api.Sent{c.s}, policy, c.now)
		want := []api.Sent{c.s}
		switch c.what {
		case goesAgain:
			want[0].Tries++
			want[0].Due = c.due
		case givenUp, tooOld:
			want = nil
		}
		if !slices.Equal(became(a), []int{c.what}) || !same(a.rest, want) {
			t.Errorf("%d: %s", i, a.show())
		}
		for _, l := range [][]api.Msg{a.again, a.dead, a.late} {
			if len(l) > 0 && !sameMsgs(l, []api.Msg{c.s.Msg}) {
				t.Errorf("%d: another message goes", i)
			}
		}
	}
	if a := dueAsSaid(t, nil, policy, 5); a.has() || len(a.rest) != 0 {
		t.Error(a.show())
	}
}

// P24.4: each list has its messages in the order in which they wait, and who is sent again keeps his place.
func TestDueOrder(t *testing.T) {
	l := []api.Sent{
		sent(9, 3, 5, 0), sent(8, 1, 5, 0), sent(7, 1, 6, 0), sent(6, 1, 9, 4), sent(5, 3, 1, 0),
		sent(4, 2, 3, 0), sent(3, 2, 7, 0), sent(2, 3, 5, 1), sent(1, 1, 1, 5),
	}
	a := dueAsSaid(t, l, policy, 5)
	for k, c := range []struct{ got, want []int64 }{
		{idsOf(msgsOf(a.rest)), []int64{8, 7, 4, 3, 1}},
		{idsOf(a.again), []int64{8, 4, 1}},
		{idsOf(a.dead), []int64{9, 5}},
		{idsOf(a.late), []int64{6, 2}},
	} {
		if !slices.Equal(c.got, c.want) {
			t.Error(k, c.got)
		}
	}
	want := []api.Sent{sent(8, 2, 9, 0), sent(7, 1, 6, 0), sent(4, 3, 10, 0), sent(3, 2, 7, 0), sent(1, 2, 9, 5)}
	if !same(a.rest, want) {
		t.Error(a.show())
	}
}

// P24.4: each time as long again, from now on and not from the Due, until Most.
func TestDueWaits(t *testing.T) {
	for _, c := range []struct {
		p     api.Policy
		waits []int64
	}{
		{api.Policy{Tries: 1, Base: 3, Most: 9}, []int64{3}},
		{api.Policy{Tries: 2, Base: 3, Most: 3}, []int64{3, 3}},
		{api.Policy{Tries: 6, Base: 3, Most: 24}, []int64{3, 6, 12, 24, 24, 24}},
		{api.Policy{Tries: 5, Base: 1, Most: 1}, []int64{1, 1, 1, 1, 1}},
		{api.Policy{Tries: 5, Base: 5, Most: 9}, []int64{5, 9, 9, 9, 9}},
		{api.Policy{Tries: 3, Base: 400000, Most: mostTicks}, []int64{400000, 800000, mostTicks}},
		{api.Policy{Tries: 3, Base: mostTicks, Most: mostTicks}, []int64{mostTicks, mostTicks, mostTicks}},
		{api.Policy{Tries: 16, Base: 1, Most: mostTicks}, []int64{1, 2, 4, 8, 16, 32, 64, 128, 256, 512, 1024, 2048, 4096, 8192, 16384, 32768}},
	} {
		const behind = 10 // how much too late Due is asked
		l, _ := sendAsSaid(t, nil, plain(1), c.p, 0)
		now := int64(0)
		for k, wait := range c.waits {
			if l[0].Due != now+wait || l[0].Tries != int64(k+1) {
				t.Fatalf("%v, %d: %s at %d", c.p, k, show(l), now)
			}
			now += wait + behind
			a := dueAsSaid(t, l, c.p, now)
			if last := k == len(c.waits)-1; last != (len(a.dead) == 1) || last == (len(a.again) == 1) {
				t.Fatalf("%v, %d: %s", c.p, k, a.show())
			}
			l = a.rest
		}
	}
}

// P24.4: small lists, all of them.
func TestDueSmall(t *testing.T) {
	for long := range 4 {
		eachSmallList(long, 3, 4, func(l []api.Sent) {
			for now := range int64(5) {
				dueAsSaid(t, l, api.Policy{Tries: 2, Base: 1, Most: 3}, now)
			}
		})
	}
}

// P24.4: any lists, with something in each field; as many as may wait too.
func TestDueRandom(t *testing.T) {
	r := newRandom(3)
	var count [4]int
	for range 40000 {
		p := randomPolicy(r)
		for _, k := range became(dueAsSaid(t, randomList(r, p, 1+r.IntN(12)), p, randomTick(r))) {
			count[k]++
		}
	}
	if slices.Min(count[:]) < 1000 {
		t.Error(count)
	}
	for range 30 {
		p := randomPolicy(r)
		dueAsSaid(t, randomList(r, p, api.MaxSent), p, randomTick(r))
	}
}
