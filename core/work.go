package core

import (
	"conduit/api"
	"conduit/copies"
	"conduit/fits"
	"conduit/panics"
	"conduit/value"
)

// work is one call of a core: who handles, and the state that it comes to.
type work struct {
	core    api.Core
	state   api.CoreState
	now     int64
	handler handler
}

func newWork(co api.Core, st api.CoreState, now int64) *work {
	w := &work{core: co, state: copies.Core(st), now: now}
	w.handler = handlerOf(co, &w.state)
	return w
}

func (w *work) handle(d api.Datum) api.Result {
	if w.state.Closed {
		return api.Result{Err: api.ErrClosed}
	}
	if w.state.Until > 0 && w.now > w.state.Until {
		return api.Result{Err: api.ErrLate}
	}
	return panics.Caught(func() api.Result { return told(w.handler.Handle(d)) })
}

func (w *work) call(which int, arg api.Datum) api.Result {
	if which < 0 || which >= api.NumCaps || w.core.Caps>>which&1 == 0 {
		return api.Result{Err: api.ErrShown}
	}
	return panics.Caught(func() api.Result { return told(w.ask(which, arg)) })
}

// told is the result of what came; which error it is, its type tells.
func told(a answer, err error) api.Result {
	switch e := err.(type) {
	case api.Errno:
		return api.Result{Err: e}
	case *value.Failure:
		if e == nil {
			return api.Result{Err: api.ErrTyped}
		}
		return api.Result{Err: api.ErrHandler, Code: e.Code}
	}
	return api.Result{Has: a.has, Body: a.body}
}

func (w *work) ask(which int, arg api.Datum) (answer, error) {
	switch which {
	case api.CapFlush:
		return w.flush()
	case api.CapClose:
		return answer{}, w.close()
	case api.CapBatch:
		return w.batch(arg)
	case api.CapAck:
		return w.ack(arg)
	case api.CapPing:
		return w.ping()
	case api.CapReset:
		w.state = api.CoreState{Closed: w.state.Closed}
	case api.CapSave:
		return w.save()
	case api.CapLoad:
		w.load(arg)
	case api.CapName:
		return answered(value.Plain(value.Text(Word(w.core.Op))))
	case api.CapUntil:
		return answer{}, w.until(arg)
	}
	return answer{}, nil
}

func (w *work) flush() (answer, error) {
	if w.state.Closed {
		return answer{}, api.ErrClosed
	}
	n := 0
	if f, ok := w.handler.(flusher); ok {
		n = f.Flush()
	}
	return answered(whole(int64(n)))
}

// close is done ahead of what the core makes of it, so that it stays closed beside an error or a panic.
func (w *work) close() error {
	if w.state.Closed {
		return api.ErrClosed
	}
	w.state.Closed = true
	if c, ok := w.handler.(closer); ok {
		return c.Close()
	}
	return nil
}

func (w *work) batch(arg api.Datum) (answer, error) {
	var n int64
	for _, d := range panics.Must(arg, api.KList).List {
		if w.handle(d).Err == api.OK {
			n++
		}
	}
	return answered(whole(n))
}

func (w *work) ack(arg api.Datum) (answer, error) {
	panics.Must(arg, api.KInt)
	w.state.Acked = oneMore(w.state.Acked)
	return answered(whole(w.state.Acked))
}

func (w *work) ping() (answer, error) {
	if w.state.Closed {
		return answer{}, api.ErrClosed
	}
	if p, ok := w.handler.(pinger); ok {
		if err := p.Ping(); err != nil {
			return answer{}, err
		}
	}
	return answered(truth(true))
}

func (w *work) save() (answer, error) {
	d, ok := Save(w.state)
	if !ok {
		return answer{}, says(codeSave)
	}
	return answered(d)
}

func (w *work) load(arg api.Datum) {
	st, ok := Load(arg)
	if !ok {
		panic(panics.Assertion(arg.Kind))
	}
	w.state = st
}

func (w *work) until(arg api.Datum) error {
	tick := panics.Must(arg, api.KInt).Int
	if !fits.Tick(tick) {
		return api.ErrRange
	}
	w.state.Until = tick
	return nil
}
