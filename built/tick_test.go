package built

import (
	"slices"
	"testing"

	"conduit/api"
)

// P20.3, P20.5, P20.6: any fit chain, from any fit state on.
func TestTickAsSaid(t *testing.T) {
	r := newRandom(3)
	none, some, many := 0, 0, 0
	for range 30000 {
		ch := randomChain(t, r)
		c := randomCall(r, ch, randomState(r, ch))
		c.what = callTick
		if at, ok := Next(ch, c.st); ok && r.IntN(2) == 0 {
			c.now = min(max(at+r.Int64N(3)-1, 0), lastTick)
		}
		switch x := c.asSaid(t); len(x.done) {
		case 0:
			none++
		case 1:
			some++
		default:
			many++
		}
	}
	if min(none, some, many) < 500 {
		t.Error(none, some, many)
	}
}

// P20.3: what is held B ticks goes on; where B is 0, time plays no part.
func TestTick(t *testing.T) {
	play(t, "count", "at 99", "tick => -")
	play(t, "count with limit 1 1 with breaker 1 1 with until 1 with dedup 1", "at 99", "tick => -")
	play(t, "count with buffer 3 5", "at 3", "tick => -", "1 1 => -", "at 6", "2 1 => -", "at 7", "tick => -", "at 8", "tick => 1=1, 2=2", "tick => -", "3 1 => -", "at 12", "tick => -", "at 99", "tick => 3=3")
	play(t, "count with buffer 3 0", "1 1 => -", "at 1099511627776", "tick => -")
}

// P20.3: levels from 1 outwards: what an outer buffer lets go comes to an inner one that has had its turn, and waits there.
func TestTickOutwards(t *testing.T) {
	play(t, "count with buffer 9 5 with buffer 9 5", "1 1 => -", "at 5", "tick => -", "at 9", "tick => -", "at 10", "tick => 1=1")
	play(t, "count with buffer 2 5 with buffer 9 5", "1 1 => -", "2 1 => -", "3 1 => -", "at 5", "tick => 1=1, 2=2", "at 10", "tick => 3=3")
	// The inner one goes first, and is empty when what is held without comes.
	play(t, "echo with buffer 3 5 with buffer 2 5", "1 1 => -", "2 2 => -", "3 3 => -", "at 5", "tick => 1=1, 2=2", "at 10", "tick => 3=3")
	// What lies between them is asked on the way, what lies without is not.
	play(t, "echo with buffer 1 0 with map:double with buffer 9 5 with map:list with limit 9 9", "1 1 => -", "at 5", "tick => 1=panic assert 5")
	st := play(t, "fail 1 with retry 3 with limit 3 9 with buffer 9 5 with breaker 1 9 with retry 3", "1 1 => -", "2 1 => -", "3 1 => -", "4 1 => -", "at 5", "tick => 1=code 1, 2=code 1, 3=code 1, 4=error 130", "5 1 => -")
	if st.Wraps[3].Breaker != (api.Breaker{}) {
		t.Error(st)
	}
}

// P20.3: own results and others, in order.
func TestTickAll(t *testing.T) {
	play(t, "count with buffer 2 0 with retry 2 with buffer 9 3", "1 1 => -", "2 1 => -", "3 1 => -", "at 3", "tick => 1=1, 2=2", "4 1 => -", "at 6", "tick => 3=3, 4=4")
}

// P20.5: the least of all buffers' ticks.
func TestNext(t *testing.T) {
	one := []api.Msg{{Topic: "t"}}
	ch := chain(t, "echo with buffer 9 5 with through with buffer 9 0 with buffer 9 7 with buffer 9 3")
	for i, c := range []struct {
		since [5]int64 // -1: none is held
		at    int64
		ok    bool
	}{
		{[5]int64{-1, -1, -1, -1, -1}, 0, false},
		{[5]int64{-1, -1, 0, -1, -1}, 0, false},
		{[5]int64{0, -1, 0, -1, -1}, 5, true},
		{[5]int64{9, -1, 0, 6, -1}, 13, true},
		{[5]int64{9, -1, 0, 7, -1}, 14, true},
		{[5]int64{9, -1, -1, 8, 10}, 13, true},
		{[5]int64{9, -1, -1, 8, 12}, 14, true},
		{[5]int64{-1, -1, -1, -1, 0}, 3, true},
		{[5]int64{lastTick, -1, -1, -1, -1}, lastTick + 5, true},
		{[5]int64{lastTick, -1, -1, lastTick, lastTick}, lastTick + 3, true},
	} {
		st := New(ch, 0)
		for k, since := range c.since {
			if since >= 0 && k != 1 {
				st.Wraps[k].Buffer = api.Buffer{Msgs: one, Since: since}
			}
		}
		if at, ok := Next(ch, st); at != c.at || ok != c.ok || !Fit(ch, st) {
			t.Errorf("%d: %d, %v", i, at, ok)
		}
	}
	if at, ok := Next(chain(t, "echo"), api.Built{}); at != 0 || ok {
		t.Error(at, ok)
	}
}

// P20.5: ahead of that tick nothing goes on, at it something does.
func TestNextIsFirst(t *testing.T) {
	r := newRandom(4)
	went := 0
	for range 5000 {
		ch := randomChain(t, r)
		st := randomState(r, ch)
		held := len(Held(st))
		moves := func(now int64) bool {
			after, done := Tick(ch, st, now)
			return len(done) > 0 || len(Held(after)) != held || !sameState(after, st)
		}
		at, ok := Next(ch, st)
		if !ok {
			if moves(lastTick) {
				t.Fatalf("%+v: %+v", ch, st)
			}
			continue
		}
		if at > 0 && at <= lastTick && (moves(at-1) || !moves(at)) {
			t.Fatalf("%+v: %+v: %d", ch, st, at)
		}
		went++
	}
	if went < 500 {
		t.Error(went)
	}
}

// P20.6: of level 1 first, each buffer's in their order.
func TestHeld(t *testing.T) {
	r := newRandom(5)
	for range 3000 {
		var st api.Built
		var want []api.Msg
		for range r.IntN(9) {
			var w api.WrapState
			for range r.IntN(4) {
				w.Buffer.Msgs = append(w.Buffer.Msgs, randomMsg(r))
			}
			want = append(want, w.Buffer.Msgs...)
			st.Wraps = append(st.Wraps, w)
		}
		if got := Held(st); !slices.EqualFunc(got, want, sameMsg) {
			t.Fatalf("%v: %v", st, got)
		}
	}
	if len(Held(api.Built{})) != 0 {
		t.Error("something is held")
	}
}
