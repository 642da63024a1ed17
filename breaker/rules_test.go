package breaker

import (
	"slices"
	"testing"

	"conduit/api"
)

// Every call ends and none panics, at numbers of which nothing else is promised too.
func TestAnyNumbers(t *testing.T) {
	l := []int64{-1 << 63, -1<<63 + 1, -1 << 40, -2, -1, 0, 1, 2, mostFails, mostFails + 1, mostTicks, 1 << 40, 1<<41 + 1, 1<<63 - 2, 1<<63 - 1}
	for _, n := range l {
		for _, until := range l {
			st := api.Breaker{Fails: n, Until: until}
			for _, a := range l {
				for _, now := range l {
					State(st, a, now)
					Ask(st, a, now)
					for _, b := range l {
						Done(st, a, b, now, of(api.ErrPanic))
						Done(st, a, b, now, of(api.OK))
						Done(st, a, b, now, of(api.ErrLate))
					}
				}
			}
		}
	}
}

// 0.3: what is answered hangs on what is handed in alone, whatever was asked between.
func TestSameAgain(t *testing.T) {
	r := newRandom(9)
	for range 20000 {
		a, b, one := randomFails(r), randomSpan(r), randomResult(r)
		st := randomState(r, a)
		now := randomNow(r, st.Until)
		state, passes, next, kind := State(st, a, now), Ask(st, a, now), Done(st, a, b, now, one), Kind(one)
		other := randomState(r, a)
		Done(other, a, b, randomNow(r, other.Until), randomResult(r))
		if State(st, a, now) != state || Ask(st, a, now) != passes || Done(st, a, b, now, one) != next || Kind(one) != kind {
			t.Fatalf("%v, %d, %d, %d: answered otherwise, asked again", st, a, b, now)
		}
	}
}

// 0.4: what a result bears is not changed, nor what lies in its spare room.
func TestHandedIn(t *testing.T) {
	same := func(x, y api.Datum) bool { return x.Kind == y.Kind && x.Int == y.Int && x.Text == y.Text }
	room := []api.Datum{{Kind: api.KInt, Int: 1}, {Kind: api.KText, Text: "a"}, {Kind: api.KName, Text: "spare"}}
	was := slices.Clone(room)
	for _, e := range []api.Errno{api.OK, api.ErrHandler, api.ErrTyped, api.ErrPanic, api.ErrLate} {
		one := api.Result{Err: e, Has: true, Body: api.Datum{Kind: api.KPair, List: room[:2]}}
		Kind(one)
		for _, n := range []int64{0, 1, 2} {
			for now := range int64(10) {
				Done(api.Breaker{Fails: n, Until: 5}, 2, 10, now, one)
			}
		}
		if len(one.Body.List) != 2 || !slices.EqualFunc(room, was, same) {
			t.Fatalf("error %d: what was handed in has changed", e)
		}
	}
}

// within is n brought into a range from least to most.
func within(n, least, most int64) int64 {
	return least + int64(uint64(n)%uint64(most-least+1))
}

// FuzzResults looks for states, ticks and results of which something else comes than the chapter says.
func FuzzResults(f *testing.F) {
	r := newRandom(10)
	f.Add(int64(2), int64(10), int64(1), int64(0), int64(6), 100, int64(1))
	for range 40 {
		a := randomFails(r)
		st := randomState(r, a)
		f.Add(a, randomSpan(r), st.Fails, st.Until, randomNow(r, st.Until), int(randomResult(r).Err), r.Int64N(9)-4)
	}
	f.Fuzz(func(t *testing.T, a, b, n, until, now int64, e int, beside int64) {
		a, b, now = within(a, 1, mostFails), within(b, 1, mostTicks), within(now, 0, api.MaxTick)
		st := api.Breaker{Fails: within(n, 0, a), Until: within(until, 0, mostUntil)}
		one := api.Result{Err: api.Errno(e), Code: beside, Panic: api.Panic{Kind: int(beside), Num: n}, Has: beside > 0}
		if Kind(one) != chapterKind(one) {
			t.Fatalf("error %d: %d", e, Kind(one))
		}
		stateAsSaid(t, st, a, now)
		next := doneAsSaid(t, st, a, b, now, one)
		stateAsSaid(t, next, a, now)
		doneAsSaid(t, next, a, b, now, of(api.ErrPanic))
	})
}
