package built

import (
	"conduit/api"
	"conduit/breaker"
	"conduit/buffer"
	"conduit/fits"
	"conduit/guard"
	"conduit/shown"
	"conduit/value"
)

// batchTopic is that of messages that come in a batch, which have none of their own.
const batchTopic = "batch"

// pass lets time pass at a level, and ahead of that at all within it.
func pass(l level) {
	if o, ok := l.(opener); ok {
		pass(o.below())
	}
	if t, ok := l.(ticker); ok {
		t.tick()
	}
}

// answering is the level that answers for a capability; -1: none does.
func answering(ch api.Chain, which int, deep bool) int {
	if deep {
		return shown.Reach(ch, which)
	}
	return shown.Who(ch, which)
}

// inwards is the level so many steps within one.
func inwards(l level, steps int) level {
	for range steps {
		if o, ok := l.(opener); ok {
			l = o.below()
		}
	}
	return l
}

// answer is what a level says that answers for a capability by itself.
func answer(l level, which int, arg api.Datum) api.Result {
	if o, ok := l.(opener); ok && which == api.CapOpen {
		return said(value.Text(o.below().word()))
	}
	switch who := l.(type) {
	case innermost:
		return who.call(which, arg)
	case giving:
		return who.give(which)
	case breaking:
		return who.ping()
	case knowing:
		who.Dedup = api.Dedup{}
		return api.Result{}
	case holding:
		if which == api.CapFlush {
			return who.flush()
		}
		return who.batch(arg)
	case lasting:
		return who.until(arg)
	}
	return refused(api.ErrShown)
}

// said is a result with an answer.
func said(v any) api.Result { return api.Result{Has: true, Body: value.Plain(v)} }

// asserted is a value of a kind, or the panic that it is none.
func asserted(d api.Datum, kind int) api.Result {
	return guard.Try(api.Act{Op: api.ActAssert, A: d, N: int64(kind)})
}

// give answers for what it has nothing to do for.
func (w giving) give(which int) api.Result {
	switch which {
	case api.CapPing:
		return said(value.Truth(true))
	case api.CapFlush, api.CapAck:
		return said(value.Whole(0))
	case api.CapName:
		return said(value.Text(w.word()))
	}
	return api.Result{}
}

func (w breaking) ping() api.Result {
	if !breaker.Ask(w.Breaker, w.A, w.now) {
		return refused(api.ErrOpen)
	}
	return said(value.Truth(true))
}

func (w holding) flush() api.Result {
	next, out := buffer.Flush(w.Buffer)
	w.Buffer = next
	w.goOn(out)
	return said(value.Whole(len(out)))
}

// batch passes the buffer by: what comes together need not be gathered.
func (w holding) batch(arg api.Datum) api.Result {
	list := asserted(arg, api.KList)
	if list.Err != api.OK {
		return list
	}
	var l []api.Msg
	for _, d := range list.Body.List {
		l = append(l, api.Msg{Topic: batchTopic, Body: d, At: w.now})
	}
	_, good := w.goOn(l)
	return said(value.Whole(good))
}

func (w lasting) until(arg api.Datum) api.Result {
	tick := asserted(arg, api.KInt)
	if tick.Err != api.OK {
		return tick
	}
	if !fits.Tick(tick.Body.Int) {
		return refused(api.ErrRange)
	}
	w.Until = tick.Body.Int
	return api.Result{}
}
