package breaker

import (
	"testing"

	"conduit/api"
)

// P14.4: behind a bad results it is open, for b ticks and no longer; ahead of the last one it is shut.
func TestItOpens(t *testing.T) {
	r := newRandom(3)
	for _, a := range append(fails(), 4, 5, 6) {
		for _, b := range append(spans(), 3, 5) {
			st, now := api.Breaker{}, pick(r, 0, randomTick(r)/2)
			for range a {
				if stateAsSaid(t, st, a, now) != 0 {
					t.Fatalf("%d, %d: %v is not shut", a, b, st)
				}
				for range r.IntN(3) {
					st = doneAsSaid(t, st, a, b, now, pick(r, neithers()...))
				}
				now += r.Int64N(3)
				st = doneAsSaid(t, st, a, b, now, pick(r, bads()...))
			}
			for _, ahead := range []int64{0, 1, b / 2, b - 2, b - 1} {
				if ahead >= 0 && ahead < b && (stateAsSaid(t, st, a, now+ahead) != 1 || Ask(st, a, now+ahead)) {
					t.Fatalf("%d, %d: %v is not open %d ticks behind %d", a, b, st, ahead, now)
				}
			}
			for _, ahead := range []int64{b, b + 1, 2 * b} {
				if stateAsSaid(t, st, a, now+ahead) != 2 || !Ask(st, a, now+ahead) {
					t.Fatalf("%d, %d: %v is not half open %d ticks behind %d", a, b, st, ahead, now)
				}
			}
		}
	}
}

// P14.4: what comes in while it is open, of what had passed ahead, does not make the time longer; a bad one behind it opens it anew for b ticks.
func TestItStaysOpen(t *testing.T) {
	r := newRandom(4)
	for range 3000 {
		a, b, from := 1+r.Int64N(5), 1+r.Int64N(30), r.Int64N(api.MaxTick/2)
		st := api.Breaker{Fails: a - 1}
		for range 3 {
			st = doneAsSaid(t, st, a, b, from, pick(r, bads()...))
			for now := from; now < from+b; now++ {
				if stateAsSaid(t, st, a, now) != 1 {
					t.Fatalf("%v is not open at %d", st, now)
				}
				st = doneAsSaid(t, st, a, b, now, pick(r, pick(r, bads()...), pick(r, neithers()...)))
			}
			from += b
			if stateAsSaid(t, st, a, from) != 2 {
				t.Fatalf("%v is not half open at %d", st, from)
			}
			from += r.Int64N(3)
		}
	}
}

// P14.5: behind a good one it is shut, at every tick, wherever it came from.
func TestItShuts(t *testing.T) {
	r := newRandom(5)
	for range 30000 {
		a, b := randomFails(r), randomSpan(r)
		st := randomState(r, a)
		now := randomNow(r, st.Until)
		st = doneAsSaid(t, st, a, b, now, pick(r, goods()...))
		for _, at := range append(ticks(), now, randomTick(r)) {
			if stateAsSaid(t, st, a, at) != 0 || !Ask(st, a, at) {
				t.Fatalf("%v, %d: not shut at %d", st, a, at)
			}
		}
	}
}

// P14.6: states stay fit along any row of results, at ticks that fall too.
func TestFit(t *testing.T) {
	r := newRandom(6)
	for range 3000 {
		a, b := pick(r, 1+r.Int64N(5), randomFails(r)), randomSpan(r)
		st := pick(r, api.Breaker{}, randomState(r, a))
		for range 40 {
			if st = Done(st, a, b, randomNow(r, st.Until), randomResult(r)); !fit(st, a) {
				t.Fatalf("%v is not fit with %d", st, a)
			}
		}
	}
}

// P14.6: what is neither plays no part: a row comes to the same without it.
func TestNeitherPlaysNoPart(t *testing.T) {
	r := newRandom(7)
	for range 5000 {
		a, b := 1+r.Int64N(4), 1+r.Int64N(20)
		with := randomState(r, a)
		without, now := with, r.Int64N(50)
		for range 30 {
			now += r.Int64N(8)
			one := randomResult(r)
			with = Done(with, a, b, now, one)
			if Kind(one) != 0 {
				without = Done(without, a, b, now, one)
			}
			if with != without {
				t.Fatalf("%d, %d: %v with what is neither, %v without", a, b, with, without)
			}
		}
	}
}

// P14.1, P14.3: of a row at ticks that do not fall, where all are asked ahead, the state tells how many were bad since the last good one, and when the last of them was.
func TestWhatARowTells(t *testing.T) {
	r := newRandom(8)
	opened := 0
	for range 5000 {
		a, b := 1+r.Int64N(4), 1+r.Int64N(20)
		st, want, now := api.Breaker{}, api.Breaker{}, r.Int64N(50)
		for range 40 {
			now += r.Int64N(6)
			if closed := want.Fails == a && now < want.Until; closed == Ask(st, a, now) {
				t.Fatalf("%d, %d: %v at %d passes: %v", a, b, st, now, !closed)
			} else if closed {
				opened++
				continue
			}
			one := pick(r, pick(r, bads()...), pick(r, bads()...), pick(r, bads()...), randomResult(r))
			st = Done(st, a, b, now, one)
			switch chapterKind(one) {
			case 1:
				want = api.Breaker{}
			case -1:
				want.Fails = min(want.Fails+1, a)
				if want.Fails == a {
					want.Until = now + b
				}
			}
			if st != want {
				t.Fatalf("%d, %d: %v, not %v, at %d", a, b, st, want, now)
			}
		}
	}
	if opened < 1000 {
		t.Errorf("only %d were held up", opened)
	}
}
