package bus

import (
	"math/rand/v2"
	"slices"
	"testing"

	"conduit/api"
	"conduit/check"
	"conduit/route"
)

func randomSteps(t testing.TB, r *rand.Rand, p api.Plan, n int) (l []api.Step) {
	t.Helper()
	for range n {
		l = append(l, randomStep(t, r, p))
	}
	return l
}

// P25.4: states stay fit up to the last number of a message, and the last count of an inbox.
func TestFitAtTheBounds(t *testing.T) {
	p := plan(t, `handler a = echo inbox 1 drop none; handler b = echo inbox 1 drop old; route "x" -> a; route "x" -> b;`)
	st := New(p)
	st.Next = 1<<60 - 3
	st.Posts[0].Inbox.Refused, st.Posts[1].Inbox.Dropped = 1<<60-2, 1<<60-2
	for range 3 {
		st = must(t, p, st, publishing("x", 1))
		if !Fit(p, st) {
			t.Fatal(st)
		}
	}
	if st.Next != 1<<60 || st.Posts[0].Inbox.Refused != 1<<60 || st.Posts[1].Inbox.Dropped != 1<<60 {
		t.Error(st)
	}
}

// place is a message that is at a handler's.
type place struct {
	id      int64
	handler int
}

// ledger is what has become of all messages of a run.
type ledger struct {
	t    *testing.T
	p    api.Plan
	msgs map[int64]api.Msg  // all that were published, by their numbers
	open map[place]struct{} // those that were queued and have come to no end
	ends [api.NumEvents]int
}

// step goes through the events of a step: P25.5, P25.6.
func (x *ledger) step(s api.Step, l []api.Event) {
	x.t.Helper()
	for i := 0; i < len(l); i++ {
		e := l[i]
		switch e.Kind {
		case api.EvPublished:
			m := s.Msg
			if i > 0 {
				m = x.answerTo(l[i-1])
			}
			x.published(e.Id, m, l[i+1:])
		case api.EvQueued:
			x.open[place{e.Id, e.Handler}] = struct{}{}
		case api.EvLate, api.EvDropped, api.EvDone:
			delete(x.open, place{e.Id, e.Handler})
			x.ends[e.Kind]++
		}
	}
}

// answerTo is the message that is published behind a result.
func (x *ledger) answerTo(e api.Event) api.Msg {
	x.t.Helper()
	m := x.msgs[e.Id]
	if e.Kind != api.EvDone || m.Reply == "" || e.Result.Err != api.OK || !e.Result.Has {
		x.t.Fatalf("something is published behind %s", showEvent(e))
	}
	return api.Msg{Topic: m.Reply, Body: e.Result.Body, Reply: m.Reply, Hops: m.Hops + 1}
}

// published holds what is told behind EvPublished against where the message goes.
func (x *ledger) published(id int64, m api.Msg, l []api.Event) {
	x.t.Helper()
	x.msgs[id] = m
	if id != int64(len(x.msgs)) {
		x.t.Fatalf("number %d is given to the message number %d", id, len(x.msgs))
	}
	if m.Hops > api.MaxHops {
		x.t.Fatalf("%d goes round for the %d-th time", id, m.Hops)
	}
	handlers := route.Handlers(x.p.Routes, m)
	if len(l) > 0 && l[0].Kind == api.EvAnswer && l[0].Id == id {
		return
	}
	if len(handlers) == 0 && (len(l) == 0 || l[0].Kind != api.EvNobody || l[0].Id != id) {
		x.t.Fatalf("%d goes to nobody: %s", id, showAll(l))
	}
	for _, h := range handlers {
		if len(l) > 1 && l[0].Kind == api.EvDropped && l[0].Id != id && l[0].Handler == h {
			l = l[1:]
		}
		if len(l) == 0 || l[0].Id != id || l[0].Handler != h || !slices.Contains([]int{api.EvQueued, api.EvRefused, api.EvDropped}, l[0].Kind) {
			x.t.Fatalf("%d goes to %v: of %d is told %s", id, handlers, h, showAll(l))
		}
		l = l[1:]
	}
}

// left holds what waits and is held against what has come to no end.
func (x *ledger) left(st api.Bus) {
	x.t.Helper()
	n := 0
	for h, post := range st.Posts {
		for _, m := range slices.Concat(post.Inbox.Msgs, post.Held) {
			n++
			if _, is := x.open[place{m.Id, h}]; !is {
				x.t.Fatalf("%d is at %d and has come to an end", m.Id, h)
			}
		}
	}
	if n != len(x.open) {
		x.t.Fatalf("%d messages are left, not %v", n, x.open)
	}
}

// P25.5, P25.6, P25.9: each message is told of, at each of its handlers; each that was queued has an end, waits, or is held; numbers are 1, 2, 3 ..; none goes round too often.
func TestNoneIsLost(t *testing.T) {
	r := newRandom(4)
	var ends [api.NumEvents]int
	for range 1500 {
		p := randomPlan(t, r)
		x := &ledger{t: t, p: p, msgs: map[int64]api.Msg{}, open: map[place]struct{}{}}
		l := randomSteps(t, r, p, r.IntN(60))
		st, events := Run(p, l)
		for i, s := range l {
			x.step(s, events[i])
		}
		x.left(st)
		if st.Next != int64(len(x.msgs)) {
			t.Fatal(st.Next, len(x.msgs))
		}
		for k, n := range x.ends {
			ends[k] += n
		}
	}
	if min(ends[api.EvLate], ends[api.EvDropped], ends[api.EvDone]) < 100 {
		t.Error(ends)
	}
}

// P25.3, P25.7: Run of two rows of steps is what Do does from where the first row ends.
func TestInPieces(t *testing.T) {
	r := newRandom(5)
	for range 800 {
		p := randomPlan(t, r)
		l := randomSteps(t, r, p, r.IntN(25))
		whole, all := Run(p, l)
		at := r.IntN(len(l) + 1)
		st, events := Run(p, l[:at])
		for _, s := range l[at:] {
			next, told := Do(p, st, s)
			st, events = next, append(events, told)
		}
		if !same(st, whole) || !slices.EqualFunc(events, all, sameEvents) || len(all) != len(l) {
			t.Fatalf("%s%v, at %d: %v, %v, not %v, %v", check.Write(p), l, at, st, events, whole, all)
		}
	}
	p := plan(t, "handler a = echo;")
	if st, l := Run(p, nil); !same(st, New(p)) || len(l) != 0 {
		t.Error(st, l)
	}
}

// P25.8: each handler that is not closed yet is told as closed once, in the order of shut; then nothing is told of closing, and nothing is handled.
func TestClosedInOrder(t *testing.T) {
	r := newRandom(6)
	for range 1500 {
		p := randomPlan(t, r)
		st := randomState(t, r, p)
		want := slices.DeleteFunc(chapterOrder(p), func(h int) bool { return st.Posts[h].Closed })
		st, l := asSaid(t, p, st, closing())
		var order []int
		for _, e := range l {
			if e.Kind == api.EvClosed {
				order = append(order, e.Handler)
			}
		}
		if !slices.Equal(order, want) {
			t.Fatalf("%s: %v, not %v", check.Write(p), order, want)
		}
		if _, again := asSaid(t, p, st, closing()); len(again) != 0 {
			t.Fatalf("%s: %s", check.Write(p), showAll(again))
		}
		for range 8 {
			s := randomStep(t, r, p)
			if s.Kind == api.StCall {
				continue
			}
			next, l := asSaid(t, p, st, s)
			if slices.ContainsFunc(l, func(e api.Event) bool {
				return slices.Contains([]int{api.EvQueued, api.EvDone, api.EvLate, api.EvDropped, api.EvClosed}, e.Kind)
			}) {
				t.Fatalf("%s: %v: %s", check.Write(p), s, showAll(l))
			}
			st = next
		}
	}
}

// P25.9: work comes to an end, whatever answers go round.
func TestWorkEnds(t *testing.T) {
	r := newRandom(7)
	for range 300 {
		p := randomPlan(t, r)
		st := must(t, p, New(p), randomSteps(t, r, p, 20)...)
		for n := 0; ; n++ {
			next, l := Do(p, st, working(api.MaxWork))
			if len(l) == 0 {
				break
			}
			if n > 50 {
				t.Fatalf("%s: %v", check.Write(p), st)
			}
			st = next
		}
	}
}
