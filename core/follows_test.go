package core

import (
	"slices"
	"testing"

	"conduit/api"
	"conduit/datum"
)

// P10.6, P10.8: along rows of calls, each from the state that the one ahead came to.
func TestStatesStayFit(t *testing.T) {
	r := newRandom(5)
	for range 1500 {
		co, st := randomCore(r), api.CoreState{}
		if r.IntN(2) == 0 {
			st = randomState(r)
		}
		for range 20 {
			c := randomCall(r, co, st)
			// Closed, little more happens.
			if c.which == api.CapClose && r.IntN(4) > 0 {
				continue
			}
			st, _ = c.asSaid(t)
		}
	}
}

// P10.7.
func TestThereAndBack(t *testing.T) {
	r := newRandom(6)
	for range 10000 {
		if st := randomState(r); !savedAsSaid(t, st) {
			t.Fatalf("%v is not saved", st)
		}
	}
	for op := 1; op <= 12; op++ {
		var st api.CoreState
		for _, d := range leaves() {
			st, _ = Handle(coreWith(op, 0, 0), st, d, 0)
			savedAsSaid(t, st)
		}
	}
}

// P10.9: the same key, the same place.
func TestStoredOnce(t *testing.T) {
	r := newRandom(7)
	again := 0
	for range 400 {
		co := coreWith(api.CoStore, pick[int64](r, 0, 0, 5), 1023)
		var st api.CoreState
		type kept struct {
			d     api.Datum
			place int64
		}
		var known []kept
		for range 60 {
			switch r.IntN(30) {
			case 0:
				st, _ = Call(co, st, pick(r, api.CapFlush, api.CapReset), api.Datum{}, 0)
				known = nil
			case 1:
				st, _ = Call(co, st, pick(r, api.CapAck, api.CapPing, api.CapSave, api.CapName), number(1), 0)
			}
			d := randomValue(r, 3)
			next, result := Handle(co, st, d, 0)
			st = next
			at := slices.IndexFunc(known, func(k kept) bool { return sameKey(k.d, d) })
			if at >= 0 {
				again++
				if !sameResult(result, gave(number(known[at].place))) {
					t.Fatalf("%s: %s, was %d", datum.Print(d), show(result), known[at].place)
				}
			}
			if result.Err == api.OK {
				known = append(known, kept{d, result.Body.Int})
			}
		}
	}
	if again < 2000 {
		t.Error(again)
	}
}

// P10.10.
func TestBatchIsHandles(t *testing.T) {
	r := newRandom(8)
	for range 10000 {
		co := coreWith(1+r.IntN(12), pick[int64](r, 0, 1, 2, 3), 1<<api.CapBatch|1<<api.CapFlush)
		st, now := randomState(r), pick[int64](r, 0, 5, 6)
		l := randomList(r, 8, 2)
		after, result := Call(co, st, api.CapBatch, api.Datum{Kind: api.KList, List: l}, now)
		var n int64
		for _, d := range l {
			next, one := Handle(co, st, d, now)
			st = next
			if one.Err == api.OK {
				n++
			}
		}
		if !sameState(after, st) || !sameResult(result, gave(number(n))) {
			t.Fatalf("%+v: %s: %s, %d", co, datum.Print(api.Datum{Kind: api.KList, List: l}), show(result), n)
		}
	}
}
