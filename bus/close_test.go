package bus

import (
	"testing"

	"conduit/api"
)

// P25.2, StClose: what waits goes untouched, in its order, ahead of what is flushed; each handler behind those that are closed ahead of it.
func TestClose(t *testing.T) {
	st := play(t, `handler a = echo with buffer 3 0 after b, c; handler b = count caps close; handler c = echo caps flush with buffer 3 0 with mask caps close; route "x" -> a; route "x" -> b; route "x" -> c;`,
		"publish x prio=1 1 => published 1, queued 1 a, queued 1 b, queued 1 c",
		"work 3 => done 1 b 1",
		"publish x prio=1 2 => published 2, queued 2 a, queued 2 b, queued 2 c",
		"publish x prio=7 3 => published 3, queued 3 a, queued 3 b, queued 3 c",
		"close => dropped 2 b, dropped 3 b, closed b none, dropped 2 c, dropped 3 c, closed c none, dropped 2 a, dropped 3 a, done 1 a 1, closed a none",
	)
	for h, post := range st.Posts {
		if !post.Closed || len(post.Inbox.Msgs) != 0 || post.Inbox.Dropped != 0 {
			t.Error(h, post)
		}
	}
}

// P25.2: those that wait for one another are closed behind the others, rising.
func TestCloseCycle(t *testing.T) {
	play(t, "handler a = echo after b; handler b = echo after a; handler c = echo after a; handler d = echo after d;", "close => closed d none, closed a none, closed b none, closed c none")
}

// P25.2: what closing comes to is told, an error or a panic too, and stops nobody; flush is asked alone where it is shown, and what it comes to is not told.
func TestCloseResults(t *testing.T) {
	play(t, "handler a = fail 5 caps close; handler b = panic -3 caps close; handler c = echo; handler d = echo caps close with hide; handler e = echo caps close, flush with open mask caps flush; handler f = none caps close;",
		"close => closed a code 5, closed b panic error -3, closed c none, closed d none, closed e none, closed f none")
	p := plan(t, "handler a = echo caps close, flush;")
	st := must(t, p, New(p), api.Step{Kind: api.StCall, Cap: api.CapClose})
	playFrom(t, p, st, "close => closed a closed")
}

// P25.2: it is flushed ahead of being closed: what it holds is handled.
func TestFlushedFirst(t *testing.T) {
	play(t, `handler a = echo caps close with buffer 4 0; route "x" -> a;`,
		"publish x 1 => published 1, queued 1 a", "work 1 => -",
		"close => done 1 a 1, closed a none",
	)
	st := play(t, `handler a = store caps close, flush; route "x" -> a;`,
		"publish x 1 => published 1, queued 1 a", "work 1 => done 1 a 0",
		"close => closed a none",
	)
	if core := st.Posts[0].Built.Core; len(core.List) != 0 || !core.Closed {
		t.Error(core)
	}
}

// P25.2: answers to what is flushed go to those that are not closed yet; the handler itself takes one still, which then waits for ever.
func TestAnswersWhileClosing(t *testing.T) {
	st := play(t, `handler a = echo; handler b = echo with buffer 9 0; handler c = echo; route "x" -> b; route "r" -> a; route "r" -> b; route "r" -> c;`,
		"publish x reply=r 1 => published 1, queued 1 b",
		"work 1 => -",
		"close => closed a none, done 1 b 1, published 2, refused 2 a closed, queued 2 b, queued 2 c, closed b none, dropped 2 c, closed c none",
		"work 9 => -",
		"close => -",
	)
	if q := st.Posts[1].Inbox; len(q.Msgs) != 1 || q.Msgs[0].Id != 2 {
		t.Error(q)
	}
}

// P25.8: handlers that are closed already are passed over; behind closing nothing is handled any more.
func TestClosedOnce(t *testing.T) {
	const config = `handler a = echo caps close; handler b = count caps close with buffer 2 3; route "x" -> a; route "x" -> b;`
	play(t, config,
		"publish x 1 => published 1, queued 1 a, queued 1 b",
		"close => dropped 1 a, closed a none, dropped 1 b, closed b none",
		"close => -",
		"publish x 2 => published 2, refused 2 a closed, refused 2 b closed",
		"ask x reply=r for=1 2 => published 3, refused 3 a closed, refused 3 b closed",
		"work 9 => -",
		"tick 9 => expired to 1",
		"close => -",
	)
	p := plan(t, config)
	st := must(t, p, New(p), publishing("x", 1))
	st.Posts[0].Closed = true
	st = playFrom(t, p, st, "close => dropped 1 b, closed b none")
	if len(st.Posts[0].Inbox.Msgs) != 1 {
		t.Error(st.Posts[0])
	}
}
