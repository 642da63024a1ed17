package limit

import (
	"testing"

	"conduit/api"
)

// P13.1: a full bucket, at small and at great numbers.
func TestNew(t *testing.T) {
	for _, a := range sizes() {
		for _, b := range sizes() {
			for _, now := range ticks() {
				if got := New(a, b, now); got != (api.Limit{Level: a * b, Last: now}) {
					t.Fatalf("New(%d, %d, %d): %v", a, b, now, got)
				}
			}
		}
	}
	if got := New(greatest, greatest, api.MaxTick); got != (api.Limit{Level: 1000000000000, Last: 1099511627776}) {
		t.Error(got)
	}
}

// P13.2: small numbers, all of them, with what comes counted tick by tick.
func TestTakeSmall(t *testing.T) {
	for a := int64(1); a < 6; a++ {
		for b := int64(1); b < 6; b++ {
			for level := range a*b + 1 {
				for last := range int64(4) {
					for now := range int64(12) {
						st := api.Limit{Level: level, Last: last}
						got, ok := takeAsSaid(t, st, a, b, now)
						want, wantOk := takenOf(walkedAsOf(st, a, b, now), b)
						if got != want || ok != wantOk {
							t.Fatalf("Take(%v, %d, %d, %d): %v, %v, not %v, %v", st, a, b, now, got, ok, want, wantOk)
						}
					}
				}
			}
		}
	}
}

// P13.2: what lies at the bounds; from the first tick to the last one more comes than a bucket holds, and runs over nowhere.
func TestTakeEdges(t *testing.T) {
	for _, a := range sizes() {
		for _, b := range sizes() {
			for _, level := range levels(a, b) {
				for _, last := range ticks() {
					for _, now := range ticks() {
						takeAsSaid(t, api.Limit{Level: level, Last: last}, a, b, now)
					}
				}
			}
		}
	}
}

// P13.2: just enough, one part less, one more; now ahead of Last; cut off at a full bucket.
func TestTakeTurns(t *testing.T) {
	for i, c := range []struct {
		st        api.Limit
		a, b, now int64
		want      api.Limit
		ok        bool
	}{
		{api.Limit{Level: 10, Last: 3}, 2, 10, 3, api.Limit{Level: 0, Last: 3}, true},
		{api.Limit{Level: 9, Last: 3}, 2, 10, 3, api.Limit{Level: 9, Last: 3}, false},
		{api.Limit{Level: 11, Last: 3}, 2, 10, 3, api.Limit{Level: 1, Last: 3}, true},
		{api.Limit{Level: 9, Last: 3}, 2, 10, 0, api.Limit{Level: 9, Last: 3}, false},
		{api.Limit{Level: 15, Last: 3}, 2, 10, 0, api.Limit{Level: 5, Last: 3}, true},
		{api.Limit{Level: 15, Last: 3}, 2, 10, 5, api.Limit{Level: 9, Last: 5}, true},
		{api.Limit{Level: 15, Last: 3}, 2, 10, 6, api.Limit{Level: 10, Last: 6}, true},
		{api.Limit{Level: 20, Last: 3}, 2, 10, 4, api.Limit{Level: 10, Last: 4}, true},
		{api.Limit{}, 1, 1, 0, api.Limit{}, false},
		{api.Limit{}, 1, 1, 1, api.Limit{Last: 1}, true},
		{api.Limit{}, greatest, greatest, api.MaxTick, api.Limit{Level: greatest * (greatest - 1), Last: api.MaxTick}, true},
		{api.Limit{}, greatest, 1, 1, api.Limit{Level: greatest - 1, Last: 1}, true},
		{api.Limit{}, 1, greatest, greatest - 1, api.Limit{Level: greatest - 1, Last: greatest - 1}, false},
		{api.Limit{}, 1, greatest, greatest, api.Limit{Level: 0, Last: greatest}, true},
	} {
		if got, ok := takeAsSaid(t, c.st, c.a, c.b, c.now); got != c.want || ok != c.ok {
			t.Errorf("%d: %v, %v", i, got, ok)
		}
	}
}

// P13.2: any numbers.
func TestTakeRandom(t *testing.T) {
	r := newRandom(1)
	had, not := 0, 0
	for range 300000 {
		a, b := randomSize(r), randomSize(r)
		st := randomState(r, a, b)
		if _, ok := takeAsSaid(t, st, a, b, randomNow(r, st.Last)); ok {
			had++
		} else {
			not++
		}
	}
	if had < 1000 || not < 1000 {
		t.Errorf("%d that were had, %d that were not", had, not)
	}
}

// P13.2: a Take that is refused loses no part of what has come: the next one is as if it alone had been made.
func TestRefusedLosesNothing(t *testing.T) {
	r := newRandom(2)
	refused := 0
	for range 100000 {
		a, b := randomSize(r), randomSize(r)
		st := randomState(r, a, b)
		now := randomNow(r, st.Last)
		between, ok := Take(st, a, b, now)
		if ok {
			continue
		}
		refused++
		later := randomNow(r, now)
		if later < now {
			continue
		}
		got, ok := Take(between, a, b, later)
		if want, wantOk := Take(st, a, b, later); got != want || ok != wantOk {
			t.Fatalf("%v, %d of %d at %d, then at %d: %v, %v, not %v, %v", st, a, b, now, later, got, ok, want, wantOk)
		}
	}
	if refused < 1000 {
		t.Errorf("only %d were refused", refused)
	}
}
