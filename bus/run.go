package bus

import (
	"slices"

	"conduit/api"
	"conduit/built"
	"conduit/queue"
	"conduit/reply"
	"conduit/shown"
	"conduit/shut"
)

// run is a bus at work: its state, which it changes where it lies, and who listens to what happens.
type run struct {
	plan  api.Plan
	state api.Bus
	tell  func(e event)
}

// newRun takes a state for its own; it has a place for each handler then, and its turn is that of one.
func newRun(p api.Plan, st api.Bus) *run {
	posts := make([]api.Post, len(p.Handlers))
	copy(posts, st.Posts)
	st.Posts = posts
	if !isTurn(st.Turn, len(posts)) {
		st.Turn = 0
	}
	return &run{plan: p, state: st}
}

// hear does a step, and is all that happens.
func (r *run) hear(s api.Step) []api.Event {
	var l []api.Event
	r.tell = func(e event) { l = append(l, plain(e, r.state.Now)) }
	r.do(stepOf(s))
	return l
}

func (r *run) do(s step) {
	switch s := s.(type) {
	case publish:
		r.put(s.msg)
	case ask:
		r.ask(s)
	case work:
		r.work(s.times)
	case wait:
		r.wait(s.ticks)
	case call:
		r.call(s)
	case shutdown:
		r.shutDown()
	}
}

// has tells whether there is a handler of that number.
func (r *run) has(h int) bool { return 0 <= h && h < len(r.state.Posts) }

// post is a handler's post, where it lies.
func (r *run) post(h int) *api.Post { return &r.state.Posts[h] }

func (r *run) chain(h int) api.Chain { return r.plan.Handlers[h].Chain }

// later is the tick that so many ticks lead to.
func (r *run) later(ticks int64) int64 { return min(r.state.Now+ticks, api.MaxTick) }

func (r *run) ask(s ask) {
	until := int64(0)
	if s.ticks > 0 {
		until = r.later(s.ticks)
	}
	asks, number, err := reply.Open(r.state.Asks, s.msg.Reply, until)
	if err != api.OK {
		r.tell(refused{of(0), err})
		return
	}
	r.state.Asks = asks
	s.msg.Corr = number
	r.put(s.msg)
}

// work lets so many messages be handled, the handlers taking turns.
func (r *run) work(times int64) {
turns:
	for range min(times, api.MaxWork) {
		for i := range r.state.Posts {
			h := (r.state.Turn + i) % len(r.state.Posts)
			if post := r.post(h); post.Closed || len(post.Inbox.Msgs) == 0 {
				continue
			}
			r.turn(h)
			continue turns
		}
		return
	}
}

// turn is a handler's: it handles one message, if those that are late leave it one.
func (r *run) turn(h int) {
	post := r.post(h)
	stay, overdue := queue.Late(post.Inbox, r.state.Now)
	for _, m := range overdue {
		r.tell(late{names{m.Id, h}})
	}
	left, m, some := queue.Take(stay)
	post.Inbox = left
	if some {
		r.handle(h, m)
	}
	r.state.Turn = (h + 1) % len(r.state.Posts)
}

func (r *run) handle(h int, m api.Msg) {
	post := r.post(h)
	post.Held = append(post.Held, m)
	next, l, _ := built.Handle(r.chain(h), post.Built, m, r.state.Now)
	post.Built = next
	r.results(h, l)
}

func (r *run) wait(ticks int64) {
	r.state.Now = r.later(ticks)
	asks, over := reply.Expire(r.state.Asks, r.state.Now)
	r.state.Asks = asks
	for _, a := range over {
		r.tell(expired{of(0), a.Corr})
	}
	for h := range r.state.Posts {
		if !r.post(h).Closed {
			r.pass(h)
		}
	}
}

// pass lets time pass for a handler.
func (r *run) pass(h int) {
	post := r.post(h)
	next, l := built.Tick(r.chain(h), post.Built, r.state.Now)
	post.Built = next
	r.results(h, l)
}

func (r *run) call(s call) {
	result := api.Result{Err: api.ErrNobody}
	if r.has(s.handler) {
		result = r.capability(s)
	}
	r.tell(called{names{0, s.handler}, result})
}

// capability asks a handler for one; what it does with messages on the way is told.
func (r *run) capability(s call) api.Result {
	post := r.post(s.handler)
	next, l, result := built.Call(r.chain(s.handler), post.Built, s.which, s.arg, r.state.Now, s.deep)
	post.Built = next
	r.results(s.handler, l)
	return result
}

func (r *run) shutDown() {
	order := shut.Order(r.afters())
	for _, h := range slices.Concat(order.Order, order.Cycle) {
		if !r.post(h).Closed {
			r.close(h)
		}
	}
}

// afters is, for each handler, those that are closed ahead of it.
func (r *run) afters() [][]int {
	l := make([][]int, len(r.plan.Handlers))
	for h, handler := range r.plan.Handlers {
		l[h] = handler.After
	}
	return l
}

// close closes a handler; until that is told it takes messages still, as its own answers may be.
func (r *run) close(h int) {
	post := r.post(h)
	for _, m := range post.Inbox.Msgs {
		r.tell(dropped{names{m.Id, h}})
	}
	post.Inbox.Msgs = nil
	r.ifShown(h, api.CapFlush)
	result := r.ifShown(h, api.CapClose)
	r.tell(closed{names{0, h}, result})
	post.Closed = true
}

// ifShown asks a handler for a capability, if it shows it.
func (r *run) ifShown(h, which int) api.Result {
	if shown.Who(r.chain(h), which) < 0 {
		return api.Result{}
	}
	return r.capability(call{handler: h, which: which})
}
