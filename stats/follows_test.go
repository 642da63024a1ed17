package stats

import (
	"slices"
	"testing"

	"conduit/api"
	"conduit/bus"
)

// P32.6: what was counted of two rows, added, is what is counted of both, where no result of the second one was told as published in the first.
func TestInPieces(t *testing.T) {
	r := newRandom(3)
	for range 3000 {
		a, b := randomEvents(r), randomEvents(r)
		a = slices.DeleteFunc(a, func(e api.Event) bool {
			return e.Kind == api.EvPublished && slices.ContainsFunc(b, func(d api.Event) bool { return d.Kind == api.EvDone && d.Id == e.Id })
		})
		n := pick(r, someHandlers...)
		whole, first, second := Count(n, slices.Concat(a, b)), Count(n, a), Count(n, b)
		for h := range whole {
			if whole[h] != Add(first[h], second[h]) {
				t.Fatal(a, b, whole[h], first[h], second[h])
			}
		}
	}
}

// P32.6 asks that they stand in it: a result whose message was published in the first row is waited for in both together alone.
func TestInPiecesNot(t *testing.T) {
	a, b := []api.Event{published(1, 2)}, []api.Event{result(1, 0, api.OK, 7)}
	whole, parts := Count(1, slices.Concat(a, b))[0], Add(Count(1, a)[0], Count(1, b)[0])
	if whole != (api.Counts{Done: 1, Good: 1, Wait: 5, Longest: 5}) || parts != (api.Counts{Done: 1, Good: 1}) {
		t.Error(whole, parts)
	}
}

// P32.7.
func TestSums(t *testing.T) {
	r := newRandom(4)
	for range 3000 {
		l := randomEvents(r)
		waits := Waits(64, l)
		for h, c := range Count(64, l) {
			var sum, last int64
			for _, w := range waits[h] {
				sum, last = sum+w, w
			}
			if c.Done < c.Good+c.Panics || c.Wait != sum || c.Longest != last || int64(len(waits[h])) > c.Done || !slices.IsSorted(waits[h]) {
				t.Fatal(c, waits[h])
			}
		}
	}
}

// P32.8.
func TestMiddleRises(t *testing.T) {
	for n := 1; n < 60; n++ {
		l := randomRising(uint64(n), n)
		last := l[0]
		for k := range 1001 {
			x, ok := Middle(l, k)
			if x < last || !ok || k == 0 && x != l[0] || k == 1000 && x != l[n-1] {
				t.Fatal(l, k, x, ok)
			}
			last = x
		}
	}
}

func publishing(topic string, n int64) api.Step {
	return api.Step{Kind: api.StPublish, Msg: api.Msg{Topic: topic, Body: api.Datum{Kind: api.KInt, Int: n}}}
}

func until(s api.Step, tick int64) api.Step { s.Msg.Until = tick; return s }

// Of a run of the bus: what waited two ticks and what waited five, what had no room, what went to make room, what came too late, what panicked and what failed.
func TestOfRuns(t *testing.T) {
	p := plan(t, `handler a = count inbox 2 drop none; handler b = echo inbox 2 drop old; handler c = panic 4; handler d = fail 3;
		route "a" -> a; route "b" -> b; route "c" -> c; route "c" -> d;`)
	steps := []api.Step{
		publishing("a", 1), publishing("a", 2), publishing("a", 3), publishing("b", 1), publishing("b", 2), publishing("b", 3), publishing("c", 1), until(publishing("c", 2), 1), publishing("x", 1),
		{Kind: api.StTick, N: 2}, {Kind: api.StWork, N: 9}, publishing("a", 4), {Kind: api.StTick, N: 5}, {Kind: api.StWork, N: 9},
	}
	_, told := bus.Run(p, steps)
	l := slices.Concat(told...)
	want := []api.Counts{
		{Queued: 3, Refused: 1, Done: 3, Good: 3, Wait: 9, Longest: 5},
		{Queued: 3, Dropped: 1, Done: 2, Good: 2, Wait: 4, Longest: 2},
		{Queued: 2, Late: 1, Done: 1, Panics: 1, Wait: 2, Longest: 2},
		{Queued: 2, Late: 1, Done: 1, Wait: 2, Longest: 2},
	}
	if c := countAsSaid(t, 4, l); !slices.Equal(c, want) {
		t.Error(c)
	}
	if w := waitsAsSaid(t, 4, l); !sameWaits(w, [][]int64{{2, 2, 5}, {2, 2}, {2}, {2}}) {
		t.Error(w)
	}
}
