package built

import (
	"slices"

	"conduit/api"
	"conduit/fits"
)

// fitsWrap tells whether a state is one of a wrapper: the one field that the wrapper uses is fit, and what is left without it is zero.
func fitsWrap(w api.Wrap, st api.WrapState) bool {
	fit := true
	switch w.Op {
	case api.WrLimit:
		fit = fitsLimit(w, st.Limit)
		st.Limit = api.Limit{}
	case api.WrBreaker:
		fit = fitsBreaker(w, st.Breaker)
		st.Breaker = api.Breaker{}
	case api.WrDedup:
		fit = fitsDedup(w, st.Dedup)
		st.Dedup = api.Dedup{}
	case api.WrBuffer:
		fit = fitsBuffer(w, st.Buffer)
		st.Buffer = api.Buffer{}
	case api.WrUntil:
		fit = fits.Tick(st.Until)
		st.Until = 0
	}
	return fit && isZero(st)
}

func isZero(st api.WrapState) bool {
	return st.Limit == api.Limit{} && st.Breaker == api.Breaker{} && len(st.Dedup.Ids) == 0 && isEmpty(st.Buffer) && st.Until == 0
}

func isEmpty(b api.Buffer) bool { return len(b.Msgs) == 0 && b.Since == 0 }

func fitsLimit(w api.Wrap, st api.Limit) bool {
	return 0 <= st.Level && st.Level <= w.A*w.B && fits.Tick(st.Last)
}

func fitsBreaker(w api.Wrap, st api.Breaker) bool {
	return 0 <= st.Fails && st.Fails <= w.A && 0 <= st.Until && st.Until <= 2*api.MaxTick
}

func fitsDedup(w api.Wrap, st api.Dedup) bool {
	if int64(len(st.Ids)) > w.A {
		return false
	}
	rising := slices.Sorted(slices.Values(st.Ids))
	return len(slices.Compact(rising)) == len(st.Ids)
}

func fitsBuffer(w api.Wrap, st api.Buffer) bool {
	if len(st.Msgs) == 0 {
		return st.Since == 0
	}
	return int64(len(st.Msgs)) < w.A && fits.Tick(st.Since) && fits.Msgs(st.Msgs)
}
