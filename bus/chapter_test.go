package bus

import (
	"slices"
	"testing"

	"conduit/api"
	"conduit/built"
	"conduit/queue"
	"conduit/reply"
	"conduit/route"
	"conduit/shown"
	"conduit/shut"
)

// The chapter, as it is written.

// book is a bus as the chapter goes through it.
type book struct {
	p  api.Plan
	st api.Bus
	l  []api.Event
}

// chapterDo is P25.2.
func chapterDo(p api.Plan, st api.Bus, s api.Step) (api.Bus, []api.Event) {
	x := &book{p: p, st: copied(st)}
	switch s.Kind {
	case api.StPublish:
		x.put(s.Msg)
	case api.StAsk:
		x.ask(s)
	case api.StWork:
		for n := int64(0); n < s.N && n < 4096; n++ {
			if !x.turn() {
				break
			}
		}
	case api.StTick:
		x.tick(s.N)
	case api.StCall:
		if s.Handler < 0 || s.Handler >= len(p.Handlers) {
			x.tell(api.EvCalled, 0, s.Handler, 0, api.Result{Err: api.ErrNobody})
			break
		}
		x.tell(api.EvCalled, 0, s.Handler, 0, x.call(s.Handler, s.Cap, s.Arg, s.Deep))
	case api.StClose:
		x.closeAll()
	}
	return x.st, x.l
}

func (x *book) tell(kind int, id int64, handler int, corr int64, r api.Result) {
	x.l = append(x.l, api.Event{Kind: kind, At: x.st.Now, Id: id, Handler: handler, Corr: corr, Result: r})
}

func (x *book) put(m api.Msg) {
	x.st.Next++
	m.Id, m.At = x.st.Next, x.st.Now
	x.tell(api.EvPublished, m.Id, -1, 0, api.Result{})
	waits := slices.ContainsFunc(x.st.Asks.Wait, func(a api.Ask) bool { return a.Corr == m.Corr && a.Topic == m.Topic })
	if m.Corr > 0 && waits {
		asks, e := reply.Answer(x.st.Asks, m.Corr, m.Topic, x.st.Now)
		x.st.Asks = asks
		r := api.Result{Err: api.ErrLate}
		if e == api.OK {
			r = api.Result{Has: true, Body: m.Body}
		}
		x.tell(api.EvAnswer, m.Id, -1, m.Corr, r)
		return
	}
	handlers := route.Handlers(x.p.Routes, m)
	if len(handlers) == 0 {
		x.tell(api.EvNobody, m.Id, -1, 0, api.Result{})
	}
	for _, h := range handlers {
		x.deliver(h, m)
	}
}

func (x *book) deliver(h int, m api.Msg) {
	post := &x.st.Posts[h]
	if post.Closed {
		x.tell(api.EvRefused, m.Id, h, 0, api.Result{Err: api.ErrClosed})
		return
	}
	all := append(slices.Clone(post.Inbox.Msgs), m)
	inbox, gone, goes, e := queue.Put(post.Inbox, x.p.Handlers[h].Inbox, x.p.Handlers[h].Drop, m)
	post.Inbox = inbox
	if e == api.ErrFull {
		x.tell(api.EvRefused, m.Id, h, 0, api.Result{Err: api.ErrFull})
		return
	}
	if goes {
		x.tell(api.EvDropped, gone.Id, h, 0, api.Result{})
		// Who goes by chapter 19: with DropNew the new one, else the first of the least priority.
		first := slices.MinFunc(all, func(a, b api.Msg) int { return a.Prio - b.Prio })
		at := slices.IndexFunc(all, func(w api.Msg) bool { return w.Prio == first.Prio })
		if x.p.Handlers[h].Drop == api.DropNew || at == len(all)-1 {
			return
		}
	}
	x.tell(api.EvQueued, m.Id, h, 0, api.Result{})
}

func (x *book) results(h int, l []api.Done) {
	for _, d := range l {
		x.tell(api.EvDone, d.Id, h, 0, d.Result)
		post := &x.st.Posts[h]
		for at, m := range post.Held {
			if m.Id != d.Id {
				continue
			}
			post.Held = slices.Concat(post.Held[:at], post.Held[at+1:])
			if m.Reply == "" || d.Result.Err != api.OK || !d.Result.Has {
				break
			}
			if m.Hops+1 > 8 {
				x.tell(api.EvHops, m.Id, h, 0, api.Result{})
				break
			}
			x.put(api.Msg{Topic: m.Reply, Body: d.Result.Body, Reply: m.Reply, Corr: m.Corr, Prio: m.Prio, Hops: m.Hops + 1})
			break
		}
	}
}

func (x *book) ask(s api.Step) {
	until := x.st.Now + s.N
	if until > lastTick {
		until = lastTick
	}
	if s.N == 0 {
		until = 0
	}
	asks, n, e := reply.Open(x.st.Asks, s.Msg.Reply, until)
	if e == api.ErrFull {
		x.tell(api.EvRefused, 0, -1, 0, api.Result{Err: api.ErrFull})
		return
	}
	x.st.Asks = asks
	s.Msg.Corr = n
	x.put(s.Msg)
}

// turn is one message of StWork; false: no handler has one.
func (x *book) turn() bool {
	n := len(x.st.Posts)
	for i := range n {
		h := (x.st.Turn + i) % n
		post := &x.st.Posts[h]
		if post.Closed || len(post.Inbox.Msgs) == 0 {
			continue
		}
		q, late := queue.Late(post.Inbox, x.st.Now)
		for _, m := range late {
			x.tell(api.EvLate, m.Id, h, 0, api.Result{})
		}
		q, m, some := queue.Take(q)
		post.Inbox = q
		if some {
			post.Held = append(post.Held, m)
			st, done, _ := built.Handle(x.p.Handlers[h].Chain, post.Built, m, x.st.Now)
			post.Built = st
			x.results(h, done)
		}
		x.st.Turn = (h + 1) % n
		return true
	}
	return false
}

func (x *book) tick(n int64) {
	x.st.Now = min(x.st.Now+n, lastTick)
	asks, over := reply.Expire(x.st.Asks, x.st.Now)
	x.st.Asks = asks
	for _, a := range over {
		x.tell(api.EvExpired, 0, -1, a.Corr, api.Result{})
	}
	for h := range x.st.Posts {
		if x.st.Posts[h].Closed {
			continue
		}
		st, done := built.Tick(x.p.Handlers[h].Chain, x.st.Posts[h].Built, x.st.Now)
		x.st.Posts[h].Built = st
		x.results(h, done)
	}
}

func (x *book) call(h, which int, arg api.Datum, deep bool) api.Result {
	st, done, r := built.Call(x.p.Handlers[h].Chain, x.st.Posts[h].Built, which, arg, x.st.Now, deep)
	x.st.Posts[h].Built = st
	x.results(h, done)
	return r
}

// chapterOrder is the order in which handlers are closed.
func chapterOrder(p api.Plan) []int {
	var after [][]int
	for _, handler := range p.Handlers {
		after = append(after, handler.After)
	}
	c := shut.Order(after)
	return slices.Concat(c.Order, c.Cycle)
}

func (x *book) closeAll() {
	for _, h := range chapterOrder(x.p) {
		post := &x.st.Posts[h]
		if post.Closed {
			continue
		}
		for _, m := range post.Inbox.Msgs {
			x.tell(api.EvDropped, m.Id, h, 0, api.Result{})
		}
		post.Inbox.Msgs = nil
		shows := shown.Shown(x.p.Handlers[h].Chain)
		if shows&(1<<api.CapFlush) != 0 {
			x.call(h, api.CapFlush, api.Datum{}, false)
		}
		var r api.Result
		if shows&(1<<api.CapClose) != 0 {
			r = x.call(h, api.CapClose, api.Datum{}, false)
		}
		x.tell(api.EvClosed, 0, h, 0, r)
		post.Closed = true
	}
}

// P25.2: what steps do from any fit states on is what the chapter says.
func TestAnySteps(t *testing.T) {
	r := newRandom(1)
	kinds := [api.NumEvents]int{}
	for range 6000 {
		p := randomPlan(t, r)
		st := randomState(t, r, p)
		for range 6 {
			s := randomStep(t, r, p)
			if r.IntN(8) == 0 {
				s = closing()
			}
			next, events := asSaid(t, p, st, s)
			for _, e := range events {
				kinds[e.Kind]++
			}
			st = next
		}
	}
	if slices.Min(kinds[1:]) < 100 {
		t.Errorf("events of some kind are seldom: %v", kinds)
	}
}

// P25.2: many steps from the first state on.
func TestLongRuns(t *testing.T) {
	r := newRandom(2)
	for range 300 {
		p := randomPlan(t, r)
		st := New(p)
		for range 150 {
			st, _ = asSaid(t, p, st, randomStep(t, r, p))
		}
	}
}
