package acks

import (
	"testing"

	"conduit/api"
)

var policy = api.Policy{Tries: 3, Base: 2, Most: 5}

// The chapter's example 1.
func TestExampleDead(t *testing.T) {
	l, e := sendAsSaid(t, nil, plain(1), policy, 0)
	if e != api.OK || !same(l, []api.Sent{sent(1, 1, 2, 0)}) {
		t.Fatal(show(l), e)
	}
	for _, c := range []struct {
		now               int64
		again, dead, late int
		rest              []api.Sent
	}{
		{1, 0, 0, 0, []api.Sent{sent(1, 1, 2, 0)}},
		{2, 1, 0, 0, []api.Sent{sent(1, 2, 6, 0)}},
		{6, 1, 0, 0, []api.Sent{sent(1, 3, 11, 0)}},
		{11, 0, 1, 0, nil},
	} {
		a := dueAsSaid(t, l, policy, c.now)
		if len(a.again) != c.again || len(a.dead) != c.dead || len(a.late) != c.late || !same(a.rest, c.rest) {
			t.Errorf("at %d: %s", c.now, a.show())
		}
		l = a.rest
	}
}

// The chapter's example 2.
func TestExampleOthers(t *testing.T) {
	l, _ := sendAsSaid(t, nil, plain(1), policy, 0)
	if n, e := nackAsSaid(t, l, 1, 3); e != api.OK || n[0].Due != 3 {
		t.Error(show(n), e)
	}
	if n, e := ackAsSaid(t, l, 9); e != api.ErrNobody || !same(n, l) {
		t.Error(show(n), e)
	}
	l, _ = sendAsSaid(t, nil, sent(1, 0, 0, 4).Msg, policy, 0)
	if at, ok := nextAsSaid(t, l); at != 2 || !ok {
		t.Error(at, ok)
	}
	if a := dueAsSaid(t, l, policy, 5); len(a.late) != 1 || len(a.rest)+len(a.again)+len(a.dead) != 0 {
		t.Error(a.show())
	}
}
