package built

import (
	"slices"

	"conduit/api"
	"conduit/datum"
	"conduit/topic"
)

func isTick(n int64) bool { return 0 <= n && n <= api.MaxTick }

// fitsWrap tells whether a state is one of a wrapper: the one field that the wrapper uses is fit, and what is left without it is zero.
func fitsWrap(w api.Wrap, st api.WrapState) bool {
	fits := true
	switch w.Op {
	case api.WrLimit:
		fits = fitsLimit(w, st.Limit)
		st.Limit = api.Limit{}
	case api.WrBreaker:
		fits = fitsBreaker(w, st.Breaker)
		st.Breaker = api.Breaker{}
	case api.WrDedup:
		fits = fitsDedup(w, st.Dedup)
		st.Dedup = api.Dedup{}
	case api.WrBuffer:
		fits = fitsBuffer(w, st.Buffer)
		st.Buffer = api.Buffer{}
	case api.WrUntil:
		fits = isTick(st.Until)
		st.Until = 0
	}
	return fits && isZero(st)
}

func isZero(st api.WrapState) bool {
	return st.Limit == api.Limit{} && st.Breaker == api.Breaker{} && len(st.Dedup.Ids) == 0 && isEmpty(st.Buffer) && st.Until == 0
}

func isEmpty(b api.Buffer) bool { return len(b.Msgs) == 0 && b.Since == 0 }

func fitsLimit(w api.Wrap, st api.Limit) bool {
	return 0 <= st.Level && st.Level <= w.A*w.B && isTick(st.Last)
}

func fitsBreaker(w api.Wrap, st api.Breaker) bool {
	return 0 <= st.Fails && st.Fails <= w.A && 0 <= st.Until && st.Until <= 2*api.MaxTick
}

func fitsDedup(w api.Wrap, st api.Dedup) bool {
	if int64(len(st.Ids)) > w.A {
		return false
	}
	rising := slices.Sorted(slices.Values(st.Ids))
	return len(slices.Compact(rising)) == len(st.Ids)
}

func fitsBuffer(w api.Wrap, st api.Buffer) bool {
	if len(st.Msgs) == 0 {
		return st.Since == 0
	}
	unfit := func(m api.Msg) bool { return !isFit(m) }
	return int64(len(st.Msgs)) < w.A && isTick(st.Since) && !slices.ContainsFunc(st.Msgs, unfit)
}

// isFit tells whether a message is one.
func isFit(m api.Msg) bool {
	return datum.Valid(m.Body) && topic.Name(m.Topic) && (m.Reply == "" || topic.Name(m.Reply)) && isTick(m.At) && isTick(m.Until) && 0 <= m.Hops && m.Hops <= api.MaxHops
}
