package built

import (
	"conduit/api"
	"conduit/breaker"
	"conduit/buffer"
	"conduit/core"
	"conduit/dedup"
	"conduit/limit"
	"conduit/retry"
	"conduit/shape"
	"conduit/shown"
	"conduit/want"
)

// The chapter, as it is written: levels by their numbers, each try made.

// chapter is P20.2 to P20.4.
func (c call) chapter() (x told) {
	w := at{c.ch, copied(c.st), c.now}
	switch c.what {
	case callHandle:
		x.done, x.own = w.handle(len(c.ch.Wraps), c.m)
	case callTick:
		x.done = w.time()
	default:
		x.done, x.result = w.call(c.which, c.arg, c.deep)
	}
	x.st = w.st
	return x
}

// at is a chain, its state, and the tick that it is.
type at struct {
	ch  api.Chain
	st  api.Built
	now int64
}

func own(m api.Msg, r api.Result) ([]api.Done, bool) { return []api.Done{{Id: m.Id, Result: r}}, true }

func ownErr(m api.Msg, e api.Errno) ([]api.Done, bool) { return own(m, api.Result{Err: e}) }

func (x *at) handle(k int, m api.Msg) ([]api.Done, bool) {
	if k == 0 {
		st, r := core.Handle(x.ch.Core, x.st.Core, m.Body, x.now)
		x.st.Core = st
		return own(m, r)
	}
	w, st := x.ch.Wraps[k-1], &x.st.Wraps[k-1]
	switch w.Op {
	case api.WrRetry:
		return x.tries(k, w.A, m)
	case api.WrLimit:
		next, ok := limit.Take(st.Limit, w.A, w.B, x.now)
		st.Limit = next
		if !ok {
			return ownErr(m, api.ErrLimit)
		}
	case api.WrBreaker:
		return x.broken(k, m)
	case api.WrDedup:
		next, known := dedup.Seen(st.Dedup, int(w.A), m.Id)
		st.Dedup = next
		if known {
			return ownErr(m, api.ErrAgain)
		}
	case api.WrBuffer:
		next, out := buffer.Put(st.Buffer, w.A, x.now, m)
		st.Buffer = next
		done, owns := x.handleAll(k-1, out)
		return done, len(owns) > 0 && owns[len(owns)-1]
	case api.WrFilter:
		if !want.Holds(w.Want, m.Body) {
			return ownErr(m, api.ErrRefuse)
		}
	case api.WrMap:
		r := shape.Map(int(w.A), m.Topic, m.Body)
		if r.Err != api.OK {
			return own(m, r)
		}
		m.Body = r.Body
	case api.WrUntil:
		if x.now > m.At+w.A || st.Until > 0 && x.now > st.Until {
			return ownErr(m, api.ErrLate)
		}
	}
	return x.handle(k-1, m)
}

// handleAll is the results of messages, one after another, and of which the own one came.
func (x *at) handleAll(k int, l []api.Msg) (done []api.Done, owns []bool) {
	for _, m := range l {
		some, own := x.handle(k, m)
		done = append(done, some...)
		owns = append(owns, own)
	}
	return done, owns
}

func (x *at) tries(k int, most int64, m api.Msg) ([]api.Done, bool) {
	var others []api.Done
	for try := int64(1); ; try++ {
		done, own := x.handle(k-1, m)
		if !own {
			return append(others, done...), false
		}
		last := done[len(done)-1]
		others = append(others, done[:len(done)-1]...)
		if !retry.Again(last.Result) || try == most {
			return append(others, last), true
		}
	}
}

func (x *at) broken(k int, m api.Msg) ([]api.Done, bool) {
	w, st := x.ch.Wraps[k-1], &x.st.Wraps[k-1]
	if !breaker.Ask(st.Breaker, w.A, x.now) {
		return ownErr(m, api.ErrOpen)
	}
	done, own := x.handle(k-1, m)
	if own {
		st.Breaker = breaker.Done(st.Breaker, w.A, w.B, x.now, done[len(done)-1].Result)
	}
	return done, own
}

func (x *at) time() (done []api.Done) {
	for i, w := range x.ch.Wraps {
		if w.Op != api.WrBuffer {
			continue
		}
		next, out := buffer.Tick(x.st.Wraps[i].Buffer, w.B, x.now)
		x.st.Wraps[i].Buffer = next
		some, _ := x.handleAll(i, out)
		done = append(done, some...)
	}
	return done
}

func gave(d api.Datum) api.Result { return api.Result{Has: true, Body: d} }

func text(s string) api.Datum { return api.Datum{Kind: api.KText, Text: s} }

func wrong(arg api.Datum) api.Result {
	return api.Result{Err: api.ErrPanic, Panic: api.Panic{Kind: api.PanAssert, Num: int64(arg.Kind)}}
}

func (x *at) call(which int, arg api.Datum, deep bool) ([]api.Done, api.Result) {
	k := shown.Who(x.ch, which)
	if deep {
		k = shown.Reach(x.ch, which)
	}
	switch {
	case k < 0:
		return nil, api.Result{Err: api.ErrShown}
	case k == 0:
		st, r := core.Call(x.ch.Core, x.st.Core, which, arg, x.now)
		x.st.Core = st
		return nil, r
	case which == api.CapOpen && k == 1:
		return nil, gave(text(coreWords[x.ch.Core.Op]))
	case which == api.CapOpen:
		return nil, gave(text(wrapWords[x.ch.Wraps[k-2].Op]))
	}
	w, st := x.ch.Wraps[k-1], &x.st.Wraps[k-1]
	switch wrapWords[w.Op] + " " + capWords[which] {
	case "give ping":
		return nil, gave(api.Datum{Kind: api.KBool, Int: 1})
	case "give flush", "give ack":
		return nil, gave(number(0))
	case "give name":
		return nil, gave(text("give"))
	case "breaker ping":
		if breaker.State(st.Breaker, w.A, x.now) == 1 {
			return nil, api.Result{Err: api.ErrOpen}
		}
		return nil, gave(api.Datum{Kind: api.KBool, Int: 1})
	case "dedup reset":
		st.Dedup.Ids = nil
	case "buffer flush":
		next, out := buffer.Flush(st.Buffer)
		st.Buffer = next
		done, _ := x.handleAll(k-1, out)
		return done, gave(number(int64(len(out))))
	case "buffer batch":
		return x.batch(k, arg)
	case "until until":
		if arg.Kind != api.KInt {
			return nil, wrong(arg)
		}
		if arg.Int < 0 || arg.Int > lastTick {
			return nil, api.Result{Err: api.ErrRange}
		}
		st.Until = arg.Int
	}
	return nil, api.Result{}
}

func (x *at) batch(k int, arg api.Datum) (all []api.Done, r api.Result) {
	if arg.Kind != api.KList {
		return nil, wrong(arg)
	}
	n := int64(0)
	for _, d := range arg.List {
		done, own := x.handle(k-1, api.Msg{Topic: "batch", Body: d, At: x.now})
		if own && done[len(done)-1].Result.Err == api.OK {
			n++
		}
		all = append(all, done...)
	}
	return all, gave(number(n))
}

// chapterNext is P20.5.
func chapterNext(ch api.Chain, st api.Built) (int64, bool) {
	next, ok := int64(0), false
	for i, w := range ch.Wraps {
		b := st.Wraps[i].Buffer
		if w.Op == api.WrBuffer && w.B > 0 && len(b.Msgs) > 0 && (!ok || b.Since+w.B < next) {
			next, ok = b.Since+w.B, true
		}
	}
	return next, ok
}

// chapterHeld is P20.6.
func chapterHeld(st api.Built) (l []api.Msg) {
	for _, w := range st.Wraps {
		for _, m := range w.Buffer.Msgs {
			l = append(l, m)
		}
	}
	return l
}
