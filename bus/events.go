package bus

import "conduit/api"

// noHandler stands where an event names none.
const noHandler = -1

// event is something that has happened: all tell their kind and whom they name; what some have beside that, their types tell.
type event interface {
	kind() int
	named() names
}

// names is the message (0: none) and the handler that an event names.
type names struct {
	id      int64
	handler int
}

func (n names) named() names { return n }

// of names a message alone.
func of(id int64) names { return names{id, noHandler} }

type (
	published struct{ names }
	unwanted  struct{ names }
	queued    struct{ names }
	refused   struct {
		names
		err api.Errno
	}
	dropped struct{ names }
	late    struct{ names }
	done    struct {
		names
		result api.Result
	}
	goneRound struct{ names }
	answered  struct {
		names
		corr   int64
		result api.Result
	}
	expired struct {
		names
		corr int64
	}
	called struct {
		names
		result api.Result
	}
	closed struct {
		names
		result api.Result
	}
)

func (published) kind() int { return api.EvPublished }
func (unwanted) kind() int  { return api.EvNobody }
func (queued) kind() int    { return api.EvQueued }
func (refused) kind() int   { return api.EvRefused }
func (dropped) kind() int   { return api.EvDropped }
func (late) kind() int      { return api.EvLate }
func (done) kind() int      { return api.EvDone }
func (goneRound) kind() int { return api.EvHops }
func (answered) kind() int  { return api.EvAnswer }
func (expired) kind() int   { return api.EvExpired }
func (called) kind() int    { return api.EvCalled }
func (closed) kind() int    { return api.EvClosed }

// plain is an event at a tick as plain data.
func plain(e event, now int64) api.Event {
	n := e.named()
	out := api.Event{Kind: e.kind(), At: now, Id: n.id, Handler: n.handler}
	switch e := e.(type) {
	case refused:
		out.Result.Err = e.err
	case done:
		out.Result = e.result
	case answered:
		out.Corr, out.Result = e.corr, e.result
	case expired:
		out.Corr = e.corr
	case called:
		out.Result = e.result
	case closed:
		out.Result = e.result
	}
	return out
}
