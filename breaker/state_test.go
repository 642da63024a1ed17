package breaker

import (
	"testing"

	"conduit/api"
)

// P14.1: small numbers, all of them.
func TestStateSmall(t *testing.T) {
	for a := int64(1); a < 6; a++ {
		for n := range a + 1 {
			for until := range int64(12) {
				for now := range int64(12) {
					stateAsSaid(t, api.Breaker{Fails: n, Until: until}, a, now)
				}
			}
		}
	}
}

// P14.1: the zero state, the last failure but one, and the tick at which the time ends.
func TestStateTurns(t *testing.T) {
	for i, c := range []struct {
		st     api.Breaker
		a, now int64
		want   int
		passes bool
	}{
		{api.Breaker{}, 1, 0, 0, true},
		{api.Breaker{}, mostFails, api.MaxTick, 0, true},
		{api.Breaker{Fails: 1, Until: 9}, 2, 0, 0, true},
		{api.Breaker{Fails: 1, Until: 9}, 2, 9, 0, true},
		{api.Breaker{Fails: 2, Until: 9}, 2, 0, 1, false},
		{api.Breaker{Fails: 2, Until: 9}, 2, 8, 1, false},
		{api.Breaker{Fails: 2, Until: 9}, 2, 9, 2, true},
		{api.Breaker{Fails: 2, Until: 9}, 2, 10, 2, true},
		{api.Breaker{Fails: 1}, 1, 0, 2, true},
		{api.Breaker{Fails: 1, Until: 1}, 1, 0, 1, false},
		{api.Breaker{Fails: mostFails - 1, Until: mostUntil}, mostFails, 0, 0, true},
		{api.Breaker{Fails: mostFails, Until: mostUntil}, mostFails, api.MaxTick, 1, false},
		{api.Breaker{Fails: mostFails, Until: api.MaxTick}, mostFails, api.MaxTick - 1, 1, false},
		{api.Breaker{Fails: mostFails, Until: api.MaxTick}, mostFails, api.MaxTick, 2, true},
		{api.Breaker{Fails: mostFails, Until: api.MaxTick + 1}, mostFails, api.MaxTick, 1, false},
	} {
		if got, passes := State(c.st, c.a, c.now), Ask(c.st, c.a, c.now); got != c.want || passes != c.passes {
			t.Errorf("%d: State(%v, %d, %d): %d, Ask: %v", i, c.st, c.a, c.now, got, passes)
		}
	}
}

// P14.1: what lies at the bounds.
func TestStateEdges(t *testing.T) {
	seen := [3]int{}
	for _, a := range fails() {
		for _, n := range []int64{0, a / 2, a - 1, a} {
			for _, until := range append(ticks(), api.MaxTick+1, api.MaxTick+mostTicks, mostUntil-1, mostUntil) {
				for _, now := range ticks() {
					seen[stateAsSaid(t, api.Breaker{Fails: n, Until: until}, a, now)]++
				}
			}
		}
	}
	for state, n := range seen {
		if n < 100 {
			t.Errorf("the state %d came only %d times", state, n)
		}
	}
}

// P14.1: any fit states.
func TestStateRandom(t *testing.T) {
	r := newRandom(1)
	for range 200000 {
		a := randomFails(r)
		st := randomState(r, a)
		stateAsSaid(t, st, a, randomNow(r, st.Until))
	}
}
