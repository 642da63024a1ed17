package bus

import (
	"slices"

	"conduit/api"
	"conduit/queue"
	"conduit/reply"
	"conduit/route"
	"conduit/value"
)

// put publishes a message: it answers a request, or goes where the routes lead it.
func (r *run) put(m api.Msg) {
	r.state.Next++
	m.Id, m.At = r.state.Next, r.state.Now
	r.tell(published{of(m.Id)})
	if m.Corr > 0 && r.answers(m) {
		return
	}
	handlers := route.Handlers(r.plan.Routes, m)
	if len(handlers) == 0 {
		r.tell(unwanted{of(m.Id)})
	}
	for _, h := range handlers {
		if r.has(h) {
			r.deliver(h, m)
		}
	}
}

// answers tells whether a message answers a request, which waits no more then.
func (r *run) answers(m api.Msg) bool {
	asks, err := reply.Answer(r.state.Asks, m.Corr, m.Topic, r.state.Now)
	if err == api.ErrReply {
		return false
	}
	r.state.Asks = asks
	result := api.Result{Err: err}
	if err == api.OK {
		result = api.Result{Has: true, Body: value.Copy(m.Body)}
	}
	r.tell(answered{of(m.Id), m.Corr, result})
	return true
}

// deliver puts a message into a handler's inbox.
func (r *run) deliver(h int, m api.Msg) {
	post, handler := r.post(h), r.plan.Handlers[h]
	if post.Closed {
		r.tell(refused{names{m.Id, h}, api.ErrClosed})
		return
	}
	waited := post.Inbox.Msgs
	inbox, gone, goes, err := queue.Put(post.Inbox, handler.Inbox, handler.Drop, m)
	post.Inbox = inbox
	if err != api.OK {
		r.tell(refused{names{m.Id, h}, err})
		return
	}
	if goes {
		r.tell(dropped{names{gone.Id, h}})
	}
	if !goes || !goesItself(waited, handler.Drop, m) {
		r.tell(queued{names{m.Id, h}})
	}
}

// goesItself tells whether a message that has no room beside those that wait is the one that goes. Its Id does not tell, as one that waits in a state that was handed in may have the same.
func goesItself(waited []api.Msg, drop int, m api.Msg) bool {
	ahead := func(w api.Msg) bool { return w.Prio <= m.Prio }
	return drop == api.DropNew || !slices.ContainsFunc(waited, ahead)
}

// results tells what has become of messages of a handler; answers that they ask for are published.
func (r *run) results(h int, l []api.Done) {
	for _, d := range l {
		r.tell(done{names{d.Id, h}, d.Result})
		m, was := r.release(h, d.Id)
		if was && m.Reply != "" && d.Result.Err == api.OK && d.Result.Has {
			r.answer(h, m, d.Result.Body)
		}
	}
}

// release takes out the first message of that number that a handler was given and that had no result yet; false: there is none.
func (r *run) release(h int, id int64) (api.Msg, bool) {
	post := r.post(h)
	at := slices.IndexFunc(post.Held, func(m api.Msg) bool { return m.Id == id })
	if at < 0 {
		return api.Msg{}, false
	}
	m := post.Held[at]
	post.Held = slices.Delete(post.Held, at, at+1)
	return m, true
}

// answer publishes what a handler answers to a message, unless that has gone round too often.
func (r *run) answer(h int, m api.Msg, body api.Datum) {
	if m.Hops >= api.MaxHops {
		r.tell(goneRound{names{m.Id, h}})
		return
	}
	r.put(api.Msg{Topic: m.Reply, Body: body, Reply: m.Reply, Corr: m.Corr, Prio: m.Prio, Hops: m.Hops + 1})
}
