package snap

import "conduit/api"

// snapshot is what a snapshot tells: the plan's text, and a state of its bus.
type snapshot struct {
	text  string
	state api.Bus
}

// visitor goes over the parts of a thing: one writes each part, the other one reads it. So what stands in a snapshot, and in which order, is said once for both.
type visitor interface {
	signed(n *int64)
	whole(n *int)
	text(s *string)
	truth(is *bool)
	value(d *api.Datum)
	// length goes over how many parts a list has, of which so many are there, and tells it.
	length(there int) int
}

// each goes over a list, and over each part as visit does. The parts that are read are put to the list one by one: how many there are is only what the bytes say.
func each[T any](v visitor, l *[]T, visit func(x *T)) {
	for i := range v.length(len(*l)) {
		if i == len(*l) {
			var none T
			*l = append(*l, none)
		}
		visit(&(*l)[i])
	}
}

// numbers goes over signed numbers, one behind the other.
func numbers(v visitor, l ...*int64) {
	for _, n := range l {
		v.signed(n)
	}
}

func visitSnapshot(v visitor, s *snapshot) {
	v.text(&s.text)
	visitState(v, &s.state)
}

func visitState(v visitor, st *api.Bus) {
	numbers(v, &st.Now, &st.Next)
	v.whole(&st.Turn)
	v.signed(&st.Asks.Next)
	each(v, &st.Asks.Wait, func(a *api.Ask) {
		numbers(v, &a.Corr, &a.Until)
		v.text(&a.Topic)
	})
	each(v, &st.Posts, func(post *api.Post) { visitPost(v, post) })
}

func visitPost(v visitor, post *api.Post) {
	message := func(m *api.Msg) { visitMsg(v, m) }
	visitCore(v, &post.Built.Core)
	each(v, &post.Built.Wraps, func(w *api.WrapState) {
		numbers(v, &w.Limit.Level, &w.Limit.Last, &w.Breaker.Fails, &w.Breaker.Until)
		each(v, &w.Dedup.Ids, v.signed)
		each(v, &w.Buffer.Msgs, message)
		numbers(v, &w.Buffer.Since, &w.Until)
	})
	each(v, &post.Inbox.Msgs, message)
	numbers(v, &post.Inbox.Refused, &post.Inbox.Dropped)
	each(v, &post.Held, message)
	v.truth(&post.Closed)
}

func visitCore(v visitor, st *api.CoreState) {
	numbers(v, &st.Count, &st.Acked)
	v.value(&st.Last)
	each(v, &st.List, v.value)
	v.truth(&st.Closed)
	v.signed(&st.Until)
}

// visitMsg goes over a message as it stands in its frame, but for what a frame asks of it: whether it is fit, the state's fit tells.
func visitMsg(v visitor, m *api.Msg) {
	numbers(v, &m.Id, &m.At, &m.Until, &m.Corr)
	v.whole(&m.Prio)
	v.whole(&m.Hops)
	v.text(&m.Topic)
	v.text(&m.Reply)
	v.value(&m.Body)
}
