package breaker

import (
	"math/rand/v2"
	"slices"
	"sync"
	"testing"

	"conduit/api"
)

// The bounds of a and of b, and of a state's Until.
const (
	mostFails = 1000
	mostTicks = 1000000
	mostUntil = 2 * api.MaxTick
)

func newRandom(seed uint64) *rand.Rand { return rand.New(rand.NewPCG(seed, 14)) }

func pick[T any](r *rand.Rand, l ...T) T { return l[r.IntN(len(l))] }

// fit is the chapter's word.
func fit(st api.Breaker, a int64) bool {
	return st.Fails >= 0 && st.Fails <= a && st.Until >= 0 && st.Until <= mostUntil
}

// chapterState is the chapter's three words, each by itself; -1, if not just one of them holds.
func chapterState(st api.Breaker, a, now int64) int {
	words := []bool{st.Fails < a, st.Fails == a && now < st.Until, st.Fails == a && now >= st.Until}
	if i := slices.Index(words, true); !slices.Contains(words[i+1:], true) {
		return i
	}
	return -1
}

// chapterKind is P14.2.
func chapterKind(r api.Result) int {
	if r.Err == api.OK {
		return 1
	}
	if slices.Contains([]api.Errno{api.ErrHandler, api.ErrTyped, api.ErrPanic}, r.Err) {
		return -1
	}
	return 0
}

// chapterDone is P14.3, by the kind and the state alone.
func chapterDone(st api.Breaker, a, b, now int64, r api.Result) api.Breaker {
	switch [2]int{chapterKind(r), chapterState(st, a, now)} {
	case [2]int{1, 0}, [2]int{1, 1}, [2]int{1, 2}:
		return api.Breaker{}
	case [2]int{-1, 0}:
		if st.Fails == a-1 {
			return api.Breaker{Fails: a, Until: now + b}
		}
		return api.Breaker{Fails: st.Fails + 1, Until: st.Until}
	case [2]int{-1, 2}:
		return api.Breaker{Fails: a, Until: now + b}
	}
	return st
}

// stateAsSaid holds what State and Ask answer against the chapter.
func stateAsSaid(t testing.TB, st api.Breaker, a, now int64) int {
	t.Helper()
	got, want := State(st, a, now), chapterState(st, a, now)
	if got != want {
		t.Fatalf("State(%v, %d, %d): %d, not %d", st, a, now, got, want)
	}
	if ask := Ask(st, a, now); ask != (want != 1) {
		t.Fatalf("Ask(%v, %d, %d): %v, where State is %d", st, a, now, ask, want)
	}
	return got
}

// doneAsSaid holds what Done answers against the chapter.
func doneAsSaid(t testing.TB, st api.Breaker, a, b, now int64, r api.Result) api.Breaker {
	t.Helper()
	got, want := Done(st, a, b, now, r), chapterDone(st, a, b, now, r)
	if got != want {
		t.Fatalf("Done(%v, %d, %d, %d, error %d): %v, not %v", st, a, b, now, r.Err, got, want)
	}
	if !fit(got, a) {
		t.Fatalf("Done(%v, %d, %d, %d, error %d): %v is not fit", st, a, b, now, r.Err, got)
	}
	return got
}

func of(e api.Errno) api.Result { return api.Result{Err: e} }

// goods, bads and neithers are results of each kind, with and without what may stand beside the error.
var goods = sync.OnceValue(func() []api.Result {
	return []api.Result{{}, {Has: true, Body: api.Datum{Kind: api.KInt, Int: 5}}, {Has: true, Body: api.Datum{Kind: api.KErr, Int: 3, Text: "x"}}, {Code: 7}, {Panic: api.Panic{Kind: api.PanOwn, Num: 2}}}
})

var bads = sync.OnceValue(func() []api.Result {
	l := []api.Result{of(api.ErrTyped), of(api.ErrPanic), {Err: api.ErrPanic, Has: true, Body: api.Datum{Kind: api.KText, Text: "x"}}}
	for _, code := range []int64{-1 << 63, -1, 0, 1, 1<<63 - 1} {
		l = append(l, api.Result{Err: api.ErrHandler, Code: code})
	}
	for kind := range api.NumPanics + 1 {
		l = append(l, api.Result{Err: api.ErrPanic, Panic: api.Panic{Kind: kind, Num: 4}})
	}
	return l
})

var neithers = sync.OnceValue(func() []api.Result {
	l := []api.Result{{Err: api.ErrLimit, Has: true, Body: api.Datum{Kind: api.KInt, Int: 1}}, {Err: api.ErrLate, Code: 1}, {Err: api.ErrOpen, Panic: api.Panic{Kind: api.PanNil}}}
	for _, e := range []api.Errno{api.ErrLimit, api.ErrOpen, api.ErrAgain, api.ErrLate, api.ErrRefuse, api.ErrFull, api.ErrClosed, api.ErrShown, api.ErrState, api.ErrNobody, api.ErrReply, api.ErrCompare, api.ErrMethod, api.ErrNilCall, api.ErrAssert, api.ErrOther, 1, 99, 102, 109, 111, -1, -100, -101, -110} {
		l = append(l, of(e))
	}
	return l
})

// fails is a's at which something may turn over.
func fails() []int64 { return []int64{1, 2, 3, 10, 500, mostFails - 1, mostFails} }

// spans is b's at which something may turn over.
func spans() []int64 { return []int64{1, 2, 10, 999, mostTicks - 1, mostTicks} }

// ticks is ticks at which something may turn over.
func ticks() []int64 {
	return []int64{0, 1, 2, 9, 10, mostTicks, 1<<31 - 1, 1 << 32, api.MaxTick / 2, api.MaxTick - mostTicks, api.MaxTick - 1, api.MaxTick}
}

func randomFails(r *rand.Rand) int64 {
	return 1 + pick(r, r.Int64N(4), r.Int64N(mostFails), mostFails-1)
}

func randomSpan(r *rand.Rand) int64 {
	return 1 + pick(r, r.Int64N(6), r.Int64N(1000), r.Int64N(mostTicks), mostTicks-1)
}

func randomTick(r *rand.Rand) int64 {
	return pick(r, r.Int64N(20), r.Int64N(2*mostTicks), r.Int64N(api.MaxTick+1), api.MaxTick-r.Int64N(20))
}

func randomState(r *rand.Rand, a int64) api.Breaker {
	return api.Breaker{Fails: pick(r, a, a-1, 0, r.Int64N(a+1)), Until: pick(r, 0, randomTick(r), r.Int64N(mostUntil+1), mostUntil)}
}

// randomNow is a tick that is often near when a state's time ends.
func randomNow(r *rand.Rand, until int64) int64 {
	near := until + pick(r, r.Int64N(7)-3, r.Int64N(2*mostTicks)-mostTicks)
	return pick(r, min(max(near, 0), api.MaxTick), randomTick(r))
}

func randomResult(r *rand.Rand) api.Result {
	return pick(r, pick(r, bads()...), pick(r, bads()...), pick(r, goods()...), pick(r, neithers()...))
}
