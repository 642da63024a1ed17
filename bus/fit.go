package bus

import (
	"slices"

	"conduit/api"
	"conduit/built"
	"conduit/fits"
)

const (
	mostIds  = 1 << 60 // of messages
	mostGone = 1 << 60 // of an inbox's counts
	mostAsks = 1 << 62 // of requests' numbers
)

// Fit tells whether a state is one of a plan's bus.
func Fit(p api.Plan, st api.Bus) bool {
	return fits.Tick(st.Now) && upTo(st.Next, mostIds) && isTurn(st.Turn, len(p.Handlers)) && fitsAsks(st.Asks) && slices.EqualFunc(p.Handlers, st.Posts, fitsPost)
}

func upTo(n, most int64) bool { return 0 <= n && n <= most }

// isTurn tells whether a number is that of one of so many handlers; where there are none, it is 0.
func isTurn(turn, handlers int) bool { return 0 <= turn && turn < max(handlers, 1) }

func fitsAsks(st api.Asks) bool {
	if !upTo(st.Next, mostAsks) || len(st.Wait) > api.MaxAsks {
		return false
	}
	last := int64(0)
	for _, a := range st.Wait {
		if a.Corr <= last || a.Corr > st.Next || !fits.Tick(a.Until) {
			return false
		}
		last = a.Corr
	}
	return true
}

func fitsPost(handler api.Named, post api.Post) bool {
	return fitsInbox(handler.Inbox, post.Inbox) && fits.Msgs(post.Held) && built.Fit(handler.Chain, post.Built)
}

func fitsInbox(room int, q api.Inbox) bool {
	return len(q.Msgs) <= room && upTo(q.Refused, mostGone) && upTo(q.Dropped, mostGone) && fits.Msgs(q.Msgs)
}
