package limit

import (
	"math/rand/v2"
	"testing"

	"conduit/api"
)

// takenAt is the ticks at which a row of Takes was true.
func takenAt(t *testing.T, st api.Limit, a, b int64, row []int64) (out []int64) {
	t.Helper()
	for _, now := range row {
		var ok bool
		if st, ok = takeAsSaid(t, st, a, b, now); ok {
			out = append(out, now)
		}
	}
	return out
}

// rising is ticks that do not fall, many of them at one tick.
func rising(r *rand.Rand, from, far int64) (out []int64) {
	for range r.IntN(60) {
		if r.IntN(2) == 0 {
			from += r.Int64N(far)
		}
		out = append(out, min(from, api.MaxTick))
	}
	return out
}

// P13.4: in any w ticks, at most a + (w - 1) * a / b. (Windows that begin and end where one was true have the most in the least.)
func TestNoMoreThanThat(t *testing.T) {
	r := newRandom(4)
	exact := 0
	for range 5000 {
		a, b := 1+r.Int64N(8), 1+r.Int64N(20)
		st := api.Limit{Level: pick(r, a*b, r.Int64N(a*b+1)), Last: r.Int64N(30)}
		at := takenAt(t, st, a, b, rising(r, pick(r, r.Int64N(40), api.MaxTick-30), pick(r, 2, b+1, 3*b+1)))
		for i, first := range at {
			for j, last := range at[i:] {
				n, most := int64(j)+1, a+(last-first)*a/b
				if n > most {
					t.Fatalf("%d of %d: from %d to %d are %d, and %d at most", a, b, first, last, n, most)
				}
				if n == most {
					exact++
				}
			}
		}
	}
	if exact < 1000 {
		t.Errorf("only %d windows with as many as may be", exact)
	}
}

// P13.4, P13.5: whoever takes all that there is, from a full bucket on, gets just as many as the bound says.
func TestAllThatThereIs(t *testing.T) {
	for a := int64(1); a < 7; a++ {
		for b := int64(1); b < 12; b++ {
			const from = 100
			st, had := New(a, b, from), int64(0)
			for w := int64(1); w < 60; w++ {
				most := a + (w-1)*a/b
				for had <= most {
					var ok bool
					if st, ok = takeAsSaid(t, st, a, b, from+w-1); !ok {
						break
					}
					had++
				}
				if had != most {
					t.Fatalf("%d of %d, in %d ticks: %d, not %d", a, b, w, had, most)
				}
			}
		}
	}
}

// P13.5: from a full bucket on, a Takes at one tick are true, and not one more.
func TestFullBucket(t *testing.T) {
	for _, a := range sizes() {
		for _, b := range []int64{1, 3, 999983, greatest} {
			st := New(a, b, 50)
			var ok bool
			for i := range a {
				if st, ok = Take(st, a, b, 50); !ok {
					t.Fatalf("%d of %d: none left behind %d", a, b, i)
				}
			}
			if st, ok = Take(st, a, b, 50); ok || st != (api.Limit{Last: 50}) {
				t.Fatalf("%d of %d: %v, %v at the end", a, b, st, ok)
			}
		}
	}
}

// P13.5: whoever waits as Wait says gets one, each time anew.
func TestWhoeverWaits(t *testing.T) {
	r := newRandom(5)
	for range 3000 {
		a, b := randomSize(r), randomSize(r)
		now := r.Int64N(api.MaxTick / 2)
		st := api.Limit{Level: r.Int64N(a*b + 1), Last: r.Int64N(api.MaxTick / 2)}
		for range 30 {
			now = max(st.Last, now) + Wait(st, a, b, now)
			var ok bool
			if st, ok = takeAsSaid(t, st, a, b, now); !ok {
				t.Fatalf("%d of %d: none at %d, %v", a, b, now, st)
			}
		}
	}
}

// P13.6: what comes out is fit, along any row of calls, at ticks that fall too.
func TestFit(t *testing.T) {
	r := newRandom(6)
	for range 5000 {
		a, b := randomSize(r), randomSize(r)
		st := New(a, b, randomTick(r))
		for range 40 {
			if !fit(st, a, b) {
				t.Fatalf("%v is not fit with %d, %d", st, a, b)
			}
			st, _ = Take(st, a, b, randomNow(r, st.Last))
		}
	}
}
