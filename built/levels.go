package built

import (
	"conduit/api"
	"conduit/copies"
	"conduit/core"
)

// level is a level of a chain at work, with what every level can do. What only some can, having another one within and letting time pass, is no method of it: a wrapper embeds the level below as a level, so that neither is promoted, and both are found by asking.
type level interface {
	// handle lets a message's results come, and tells whether its own one is among them: it is the last one then.
	handle(m api.Msg) bool
	word() string
}

type opener interface{ below() level }

type ticker interface{ tick() }

// run is one call of a chain: the state that it comes to, and the results that have come on the way.
type run struct {
	state api.Built
	now   int64
	done  []api.Done
	moves int // how often a wrapper's state has become another one
}

// newRun has a state in memory of its own, with a place for each wrapper, so that levels may work on it where it lies.
func newRun(ch api.Chain, st api.Built, now int64) *run {
	r := &run{now: now, state: copies.Built(st)}
	places := make([]api.WrapState, len(ch.Wraps))
	copy(places, r.state.Wraps)
	r.state.Wraps = places
	return r
}

// outermost is the levels of a chain at work on the run's state, each around the one below it.
func (r *run) outermost(ch api.Chain) level {
	var l level = innermost{r, ch.Core}
	for i, w := range ch.Wraps {
		l = around(wrapper{l, r, w, &r.state.Wraps[i]})
	}
	return l
}

func (r *run) tell(m api.Msg, result api.Result) bool {
	r.done = append(r.done, api.Done{Id: m.Id, Result: result})
	return true
}

func (r *run) refuse(m api.Msg, err api.Errno) bool { return r.tell(m, refused(err)) }

// last is a message's own result, where that has come.
func (r *run) last() api.Result { return r.done[len(r.done)-1].Result }

func (r *run) takeBack() { r.done = r.done[:len(r.done)-1] }

func (r *run) moved(is bool) {
	if is {
		r.moves++
	}
}

func refused(err api.Errno) api.Result { return api.Result{Err: err} }

// innermost is level 0.
type innermost struct {
	*run
	api.Core
}

func (l innermost) word() string { return core.Word(l.Op) }

func (l innermost) handle(m api.Msg) bool {
	next, result := core.Handle(l.Core, l.state.Core, m.Body, l.now)
	l.state.Core = next
	return l.tell(m, result)
}

func (l innermost) call(which int, arg api.Datum) api.Result {
	next, result := core.Call(l.Core, l.state.Core, which, arg, l.now)
	l.state.Core = next
	return result
}
