package built

import (
	"conduit/api"
	"conduit/breaker"
	"conduit/buffer"
	"conduit/dedup"
	"conduit/limit"
	"conduit/retry"
	"conduit/shape"
	"conduit/want"
)

// wrapper is what all wrappers have, and the whole of those that play no part in handling: how the level below handles is promoted. The state is its own part of the run's.
type wrapper struct {
	level
	*run
	api.Wrap
	*api.WrapState
}

var words = [api.NumWraps]string{
	api.WrThrough: "through",
	api.WrMask:    "mask",
	api.WrHide:    "hide",
	api.WrGive:    "give",
	api.WrRetry:   "retry",
	api.WrLimit:   "limit",
	api.WrBreaker: "breaker",
	api.WrDedup:   "dedup",
	api.WrBuffer:  "buffer",
	api.WrFilter:  "filter",
	api.WrMap:     "map",
	api.WrUntil:   "until",
}

func (w wrapper) word() string {
	if w.Op < 0 || w.Op >= api.NumWraps {
		return ""
	}
	return words[w.Op]
}

func (w wrapper) below() level { return w.level }

// around is a wrapper with its own way of handling, or of answering, if it has one.
func around(w wrapper) level {
	switch w.Op {
	case api.WrGive:
		return giving{w}
	case api.WrRetry:
		return retrying{w}
	case api.WrLimit:
		return limiting{w}
	case api.WrBreaker:
		return breaking{w}
	case api.WrDedup:
		return knowing{w}
	case api.WrBuffer:
		return holding{w}
	case api.WrFilter:
		return filtering{w}
	case api.WrMap:
		return mapping{w}
	case api.WrUntil:
		return lasting{w}
	}
	return w
}

type giving struct{ wrapper }

type retrying struct{ wrapper }

func (w retrying) handle(m api.Msg) bool {
	for try := int64(1); ; try++ {
		moves := w.moves
		if !w.level.handle(m) {
			return false
		}
		// A try that failed has left the core as it was. If it has left the wrappers within so, too, each further one would go the same way: to end here keeps retries around retries from trying as often as all their numbers multiplied.
		if try >= w.A || !retry.Again(w.last()) || moves == w.moves {
			return true
		}
		w.takeBack()
	}
}

type limiting struct{ wrapper }

func (w limiting) handle(m api.Msg) bool {
	next, ok := limit.Take(w.Limit, w.A, w.B, w.now)
	w.moved(next != w.Limit)
	w.Limit = next
	if !ok {
		return w.refuse(m, api.ErrLimit)
	}
	return w.level.handle(m)
}

type breaking struct{ wrapper }

func (w breaking) handle(m api.Msg) bool {
	if !breaker.Ask(w.Breaker, w.A, w.now) {
		return w.refuse(m, api.ErrOpen)
	}
	own := w.level.handle(m)
	if own {
		next := breaker.Done(w.Breaker, w.A, w.B, w.now, w.last())
		w.moved(next != w.Breaker)
		w.Breaker = next
	}
	return own
}

type knowing struct{ wrapper }

func (w knowing) handle(m api.Msg) bool {
	next, known := dedup.Seen(w.Dedup, int(w.A), m.Id)
	w.moved(!known)
	w.Dedup = next
	if known {
		return w.refuse(m, api.ErrAgain)
	}
	return w.level.handle(m)
}

type holding struct{ wrapper }

func (w holding) handle(m api.Msg) bool {
	next, out := buffer.Put(w.Buffer, w.A, w.now, m)
	// One that holds a single message lets it go on at once, and is then as it was.
	w.moved(len(w.Buffer.Msgs)+len(next.Msgs) > 0)
	w.Buffer = next
	own, _ := w.goOn(out)
	return own
}

func (w holding) tick() {
	next, out := buffer.Tick(w.Buffer, w.B, w.now)
	w.Buffer = next
	w.goOn(out)
}

// goOn lets messages be handled below: whether the last one's own result came, and how many own results came that are OK.
func (w holding) goOn(l []api.Msg) (own bool, good int) {
	for _, m := range l {
		own = w.level.handle(m)
		if own && w.last().Err == api.OK {
			good++
		}
	}
	return own, good
}

type filtering struct{ wrapper }

func (w filtering) handle(m api.Msg) bool {
	if !want.Holds(w.Want, m.Body) {
		return w.refuse(m, api.ErrRefuse)
	}
	return w.level.handle(m)
}

type mapping struct{ wrapper }

func (w mapping) handle(m api.Msg) bool {
	r := shape.Map(int(w.A), m.Topic, m.Body)
	if r.Err != api.OK {
		return w.tell(m, r)
	}
	m.Body = r.Body
	return w.level.handle(m)
}

type lasting struct{ wrapper }

func (w lasting) handle(m api.Msg) bool {
	if w.now > m.At+w.A || w.Until > 0 && w.now > w.Until {
		return w.refuse(m, api.ErrLate)
	}
	return w.level.handle(m)
}
