package stats

import (
	"math/rand/v2"
	"slices"
	"testing"

	"conduit/api"
	"conduit/check"
)

const lastTick = 1099511627776 // 2^40

func newRandom(seed uint64) *rand.Rand { return rand.New(rand.NewPCG(seed, 32)) }

func pick[T any](r *rand.Rand, l ...T) T { return l[r.IntN(len(l))] }

func plan(t testing.TB, config string) api.Plan {
	t.Helper()
	p, f := check.Load([]byte(config))
	if f.Err != api.OK {
		t.Fatalf("%s: %v", config, f)
	}
	return p
}

func published(id, at int64) api.Event {
	return api.Event{Kind: api.EvPublished, At: at, Id: id, Handler: -1}
}

func named(kind int, id int64, handler int) api.Event {
	return api.Event{Kind: kind, Id: id, Handler: handler}
}

func result(id int64, handler int, err api.Errno, at int64) api.Event {
	return api.Event{Kind: api.EvDone, At: at, Id: id, Handler: handler, Result: api.Result{Err: err}}
}

// chapterWait is what the chapter calls a wait, of the event at a place: the last one that tells of its publishing is looked for backwards.
func chapterWait(l []api.Event, place int) (int64, bool) {
	for i := place - 1; i >= 0; i-- {
		if l[i].Kind == api.EvPublished && l[i].Id == l[place].Id {
			if l[place].At < l[i].At {
				return 0, true
			}
			return l[place].At - l[i].At, true
		}
	}
	return 0, false
}

func chapterHandlers(n int) int {
	if n < 0 {
		return 0
	}
	if n > 64 {
		return 64
	}
	return n
}

func howMany(l []api.Event, is func(api.Event) bool) (n int64) {
	for _, e := range l {
		if is(e) {
			n++
		}
	}
	return n
}

// chapterWaits is P32.2.
func chapterWaits(n int, l []api.Event) (out [][]int64) {
	for h := range chapterHandlers(n) {
		waits := []int64{}
		for i, e := range l {
			if e.Kind == api.EvDone && e.Handler == h {
				if w, is := chapterWait(l, i); is {
					waits = append(waits, w)
				}
			}
		}
		slices.Sort(waits)
		out = append(out, waits)
	}
	return out
}

// chapterCount is P32.1: each field is counted by itself.
func chapterCount(n int, l []api.Event) (out []api.Counts) {
	waits := chapterWaits(n, l)
	for h := range chapterHandlers(n) {
		of := func(kind int) int64 {
			return howMany(l, func(e api.Event) bool { return e.Kind == kind && e.Handler == h })
		}
		with := func(err api.Errno) int64 {
			return howMany(l, func(e api.Event) bool { return e.Kind == api.EvDone && e.Handler == h && e.Result.Err == err })
		}
		c := api.Counts{Queued: of(api.EvQueued), Refused: of(api.EvRefused), Dropped: of(api.EvDropped), Late: of(api.EvLate), Done: of(api.EvDone), Good: with(api.OK), Panics: with(api.ErrPanic)}
		for _, w := range waits[h] {
			c.Wait += w
			c.Longest = max(c.Longest, w)
		}
		out = append(out, c)
	}
	return out
}

func sameWaits(a, b [][]int64) bool { return slices.EqualFunc(a, b, slices.Equal) }

// countAsSaid holds what is counted of events against the chapter.
func countAsSaid(t testing.TB, n int, l []api.Event) []api.Counts {
	t.Helper()
	got := Count(n, l)
	if said := chapterCount(n, l); !slices.Equal(got, said) {
		t.Fatalf("%d of %v: %v, not %v", n, l, got, said)
	}
	return got
}

// waitsAsSaid holds the waits of events against the chapter.
func waitsAsSaid(t testing.TB, n int, l []api.Event) [][]int64 {
	t.Helper()
	got := Waits(n, l)
	if said := chapterWaits(n, l); !sameWaits(got, said) {
		t.Fatalf("%d of %v: %v, not %v", n, l, got, said)
	}
	return got
}

// randomEvents have few numbers, so that messages are published again, and ticks that go back, too.
func randomEvents(r *rand.Rand) (l []api.Event) {
	for range pick(r, 0, 1, 2, 5, 20, 40, 100) {
		e := api.Event{
			Kind:    pick(r, api.EvPublished, api.EvPublished, api.EvDone, api.EvDone, api.EvDone, r.IntN(api.NumEvents+2)-1),
			At:      pick(r, 0, 1, r.Int64N(50), r.Int64N(50), r.Int64N(lastTick+1), lastTick),
			Id:      pick(r, 0, 1, 1, 2, 3, r.Int64N(9)-2),
			Handler: pick(r, -1, 0, 0, 1, 1, 2, 3, 63, 64),
			Corr:    r.Int64N(3),
		}
		e.Result.Err = pick(r, api.OK, api.OK, api.ErrPanic, api.ErrHandler, api.ErrLate, api.ErrOpen, 7777)
		if r.IntN(5) == 0 {
			e.Result.Code, e.Result.Panic, e.Result.Has, e.Result.Body = r.Int64N(9), api.Panic{Kind: api.PanOwn, Num: 3}, true, api.Datum{Kind: api.KInt, Int: 5}
		}
		l = append(l, e)
	}
	return l
}

// someHandlers are numbers of handlers, and such as are none.
var someHandlers = []int{-1 << 63, -1, 0, 1, 2, 3, 4, 63, 64, 65, 99, 1<<63 - 1}

func randomCounts(r *rand.Rand) api.Counts {
	n := func() int64 {
		return pick(r, 0, 1, r.Int64N(100), r.Int64N(lastTick), -r.Int64N(9), 1<<63-1, -1<<63, int64(r.Uint64()))
	}
	return api.Counts{Queued: n(), Refused: n(), Dropped: n(), Late: n(), Done: n(), Good: n(), Panics: n(), Wait: n(), Longest: n()}
}
