package breaker

import (
	"testing"

	"conduit/api"
)

// P14.3: each kind of result in each state, at its turns.
func TestDoneTurns(t *testing.T) {
	good, bad, late := of(api.OK), of(api.ErrHandler), of(api.ErrLate)
	for i, c := range []struct {
		st        api.Breaker
		a, b, now int64
		r         api.Result
		want      api.Breaker
	}{
		{api.Breaker{}, 2, 10, 5, bad, api.Breaker{Fails: 1}},
		{api.Breaker{}, 1, 10, 5, bad, api.Breaker{Fails: 1, Until: 15}},
		{api.Breaker{}, 1, 1, 0, bad, api.Breaker{Fails: 1, Until: 1}},
		{api.Breaker{Fails: 1}, 3, 10, 5, bad, api.Breaker{Fails: 2}},
		{api.Breaker{Fails: 2}, 3, 10, 6, bad, api.Breaker{Fails: 3, Until: 16}},
		// An Until that a shut one bears means nothing there: it stays, till the last failure sets it.
		{api.Breaker{Fails: 1, Until: 90}, 3, 10, 5, bad, api.Breaker{Fails: 2, Until: 90}},
		{api.Breaker{Fails: 1, Until: 2}, 3, 10, 5, bad, api.Breaker{Fails: 2, Until: 2}},
		{api.Breaker{Fails: 2, Until: 90}, 3, 10, 5, bad, api.Breaker{Fails: 3, Until: 15}},
		{api.Breaker{Fails: 3, Until: 16}, 3, 10, 15, bad, api.Breaker{Fails: 3, Until: 16}},
		{api.Breaker{Fails: 3, Until: 16}, 3, 10, 0, bad, api.Breaker{Fails: 3, Until: 16}},
		{api.Breaker{Fails: 3, Until: 16}, 3, 10, 16, bad, api.Breaker{Fails: 3, Until: 26}},
		{api.Breaker{Fails: 3, Until: 16}, 3, 10, 40, bad, api.Breaker{Fails: 3, Until: 50}},
		{api.Breaker{Fails: 3}, 3, 10, 0, bad, api.Breaker{Fails: 3, Until: 10}},
		{api.Breaker{Fails: 2, Until: 7}, 3, 10, 5, good, api.Breaker{}},
		{api.Breaker{Fails: 3, Until: 16}, 3, 10, 15, good, api.Breaker{}},
		{api.Breaker{Fails: 3, Until: 16}, 3, 10, 16, good, api.Breaker{}},
		{api.Breaker{}, 3, 10, 16, good, api.Breaker{}},
		{api.Breaker{}, 1, 10, 5, late, api.Breaker{}},
		{api.Breaker{Fails: 2, Until: 7}, 3, 10, 5, late, api.Breaker{Fails: 2, Until: 7}},
		{api.Breaker{Fails: 3, Until: 16}, 3, 10, 15, late, api.Breaker{Fails: 3, Until: 16}},
		{api.Breaker{Fails: 3, Until: 16}, 3, 10, 16, late, api.Breaker{Fails: 3, Until: 16}},
		{api.Breaker{Fails: mostFails - 1}, mostFails, mostTicks, api.MaxTick, bad, api.Breaker{Fails: mostFails, Until: api.MaxTick + mostTicks}},
		{api.Breaker{Fails: mostFails, Until: mostUntil}, mostFails, mostTicks, api.MaxTick, bad, api.Breaker{Fails: mostFails, Until: mostUntil}},
	} {
		if got := Done(c.st, c.a, c.b, c.now, c.r); got != c.want {
			t.Errorf("%d: Done(%v, %d, %d, %d, error %d): %v, not %v", i, c.st, c.a, c.b, c.now, c.r.Err, got, c.want)
		}
	}
}

// P14.3: small numbers, all of them, with a result of each kind.
func TestDoneSmall(t *testing.T) {
	results := []api.Result{of(api.OK), of(api.ErrHandler), of(api.ErrTyped), of(api.ErrPanic), of(api.ErrOpen)}
	for a := int64(1); a < 5; a++ {
		for b := int64(1); b < 5; b++ {
			for n := range a + 1 {
				for until := range int64(8) {
					for now := range int64(8) {
						for _, r := range results {
							doneAsSaid(t, api.Breaker{Fails: n, Until: until}, a, b, now, r)
						}
					}
				}
			}
		}
	}
}

// P14.3: what lies at the bounds.
func TestDoneEdges(t *testing.T) {
	for _, a := range fails() {
		for _, b := range spans() {
			for _, n := range []int64{0, a / 2, a - 1, a} {
				for _, until := range append(ticks(), mostUntil) {
					for _, now := range ticks() {
						for _, r := range []api.Result{of(api.OK), of(api.ErrPanic), of(api.ErrRefuse)} {
							doneAsSaid(t, api.Breaker{Fails: n, Until: until}, a, b, now, r)
						}
					}
				}
			}
		}
	}
}

// P14.3: which result of its kind it is, and what stands beside the error, plays no part.
func TestDoneByKindAlone(t *testing.T) {
	states := []api.Breaker{{}, {Fails: 1}, {Fails: 1, Until: 30}, {Fails: 2, Until: 7}, {Fails: 2, Until: 8}}
	for _, l := range [][]api.Result{goods(), bads(), neithers()} {
		for _, st := range states {
			want := Done(st, 2, 10, 7, l[0])
			for _, r := range l {
				if got := doneAsSaid(t, st, 2, 10, 7, r); got != want {
					t.Errorf("%v behind %v: %v, not %v", st, r, got, want)
				}
			}
		}
	}
}

// P14.3: any fit states.
func TestDoneRandom(t *testing.T) {
	r := newRandom(2)
	for range 100000 {
		a, b := randomFails(r), randomSpan(r)
		st := randomState(r, a)
		doneAsSaid(t, st, a, b, randomNow(r, st.Until), randomResult(r))
	}
}
