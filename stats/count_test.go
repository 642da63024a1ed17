package stats

import (
	"slices"
	"testing"

	"conduit/api"
)

// P32.1, P32.2: on random events all is as the chapter says.
func TestAsSaid(t *testing.T) {
	r := newRandom(1)
	for range 4000 {
		l := randomEvents(r)
		n := pick(r, someHandlers...)
		countAsSaid(t, n, l)
		waitsAsSaid(t, n, l)
	}
}

// P32.1, P32.2: as many handlers as are asked for: below 0 none, above MaxHandlers that many; those of whom nothing is told, too.
func TestHowMany(t *testing.T) {
	l := []api.Event{named(api.EvQueued, 1, 63), named(api.EvQueued, 1, 64), named(api.EvQueued, 1, -1), published(1, 0), result(1, 64, api.OK, 3), result(1, 63, api.OK, 2), result(1, -1, api.OK, 4)}
	for n, want := range map[int]int{-1 << 63: 0, -1: 0, 0: 0, 1: 1, 63: 63, 64: 64, 65: 64, 1<<63 - 1: 64} {
		c, w := countAsSaid(t, n, l), waitsAsSaid(t, n, l)
		if len(c) != want || len(w) != want {
			t.Fatal(n, len(c), len(w))
		}
		for h := range want {
			if h < 63 && (c[h] != api.Counts{} || len(w[h]) != 0) || h == 63 && (c[h] != api.Counts{Queued: 1, Done: 1, Good: 1, Wait: 2, Longest: 2} || !slices.Equal(w[h], []int64{2})) {
				t.Error(n, h, c[h], w[h])
			}
		}
	}
}

// P32.1: each kind counts in its own field, of the handler that it names, and all other kinds in none.
func TestKinds(t *testing.T) {
	said := map[int]api.Counts{api.EvQueued: {Queued: 1}, api.EvRefused: {Refused: 1}, api.EvDropped: {Dropped: 1}, api.EvLate: {Late: 1}, api.EvDone: {Done: 1, Good: 1}}
	for _, kind := range []int{-1 << 63, -1, 0, 1, 2, 3, 4, 5, 6, 7, 8, 9, 10, 11, 12, 13, 99, 1<<63 - 1} {
		c := countAsSaid(t, 3, []api.Event{named(kind, 4, 1)})
		if !slices.Equal(c, []api.Counts{{}, said[kind], {}}) {
			t.Error(kind, c)
		}
		if w := waitsAsSaid(t, 3, []api.Event{named(kind, 4, 1)}); len(w[0])+len(w[1])+len(w[2]) != 0 {
			t.Error(kind, w)
		}
	}
}

// P32.1: results are good with OK, panics with ErrPanic, and neither with any other error; errors of other events play no part.
func TestResults(t *testing.T) {
	for err, want := range map[api.Errno]api.Counts{api.OK: {Done: 1, Good: 1}, api.ErrPanic: {Done: 1, Panics: 1}, api.ErrHandler: {Done: 1}, api.ErrLate: {Done: 1}, api.ErrOpen: {Done: 1}, -1: {Done: 1}, 9999: {Done: 1}} {
		e := result(1, 0, err, 3)
		if c := countAsSaid(t, 1, []api.Event{e}); c[0] != want {
			t.Error(err, c)
		}
		e.Kind = api.EvRefused
		if c := countAsSaid(t, 1, []api.Event{e}); c[0] != (api.Counts{Refused: 1}) {
			t.Error(err, c)
		}
	}
	e := result(1, 0, api.OK, 3)
	e.Result = api.Result{Code: 5, Panic: api.Panic{Kind: api.PanNil}, Has: true, Body: api.Datum{Kind: api.KInt, Int: 4}}
	if c := countAsSaid(t, 1, []api.Event{e}); c[0] != (api.Counts{Done: 1, Good: 1}) {
		t.Error("all but Err plays a part", c)
	}
}

// "A wait": from the last telling ahead of the result, whatever handler it names, to the result; 0, if that lies ahead of it in time.
func TestWaits(t *testing.T) {
	of := func(e api.Event, handler int) api.Event { e.Handler = handler; return e }
	for _, c := range []struct {
		name string
		l    []api.Event
		want []int64
	}{
		{"never published", []api.Event{result(1, 0, api.OK, 7)}, nil},
		{"published later", []api.Event{result(1, 0, api.OK, 7), published(1, 3)}, nil},
		{"another one published", []api.Event{published(2, 3), result(1, 0, api.OK, 7)}, nil},
		{"told by other kinds", []api.Event{named(api.EvQueued, 1, 0), named(api.EvNobody, 1, -1), named(api.EvAnswer, 1, -1), result(1, 0, api.OK, 7)}, nil},
		{"the last one", []api.Event{published(1, 3), published(1, 5), result(1, 0, api.OK, 7), published(1, 6)}, []int64{2}},
		{"the last one in the row, not in time", []api.Event{published(1, 5), published(1, 3), result(1, 0, api.OK, 7)}, []int64{4}},
		{"between two results", []api.Event{published(1, 3), result(1, 0, api.OK, 7), published(1, 6), result(1, 0, api.OK, 9)}, []int64{3, 4}},
		{"below 0", []api.Event{published(1, 9), result(1, 0, api.OK, 7)}, []int64{0}},
		{"below 0 by far", []api.Event{published(1, lastTick), result(1, 0, api.OK, 0)}, []int64{0}},
		{"the longest", []api.Event{published(1, 0), result(1, 0, api.OK, lastTick)}, []int64{lastTick}},
		{"at once", []api.Event{published(1, 7), result(1, 0, api.OK, 7)}, []int64{0}},
		{"published at 0", []api.Event{published(1, 0), result(1, 0, api.OK, 7)}, []int64{7}},
		{"number 0", []api.Event{published(0, 2), result(0, 0, api.OK, 7)}, []int64{5}},
		{"no such number", []api.Event{result(0, 0, api.OK, 7)}, nil},
		{"number below 0", []api.Event{published(-5, 2), result(-5, 0, api.OK, 7)}, []int64{5}},
		{"whatever the result", []api.Event{published(1, 2), result(1, 0, api.ErrPanic, 7), result(1, 0, api.ErrLate, 3)}, []int64{1, 5}},
		{"published by a handler counted", []api.Event{of(published(1, 2), 0), result(1, 0, api.OK, 7)}, []int64{5}},
		{"published by one that is none", []api.Event{of(published(1, 2), 999), result(1, 0, api.OK, 7)}, []int64{5}},
		{"published by one below none", []api.Event{of(published(1, 2), -7), result(1, 0, api.OK, 7)}, []int64{5}},
		{"rising, and twice the same", []api.Event{published(1, 0), result(1, 0, api.OK, 9), result(1, 0, api.OK, 2), result(1, 0, api.OK, 9), result(1, 0, api.OK, 5)}, []int64{2, 5, 9, 9}},
		{"of another handler", []api.Event{published(1, 0), result(1, 1, api.OK, 9)}, nil},
	} {
		if w := waitsAsSaid(t, 1, c.l); len(w) != 1 || !slices.Equal(w[0], c.want) {
			t.Error(c.name, w)
		}
		countAsSaid(t, 1, c.l)
	}
}

// P32.1: waits together may be more than a tick can be.
func TestGreatWaits(t *testing.T) {
	l := []api.Event{published(1, 0)}
	for range 1000 {
		l = append(l, result(1, 0, api.OK, lastTick))
	}
	if c := countAsSaid(t, 1, l); c[0] != (api.Counts{Done: 1000, Good: 1000, Wait: 1000 * lastTick, Longest: lastTick}) {
		t.Error(c)
	}
}
