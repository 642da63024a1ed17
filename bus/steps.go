package bus

import (
	"conduit/api"
	"conduit/datum"
	"conduit/fits"
)

// step is something that is done with a bus, with what its kind has and nothing else: so what other kinds have plays no part.
type step interface{ fit() bool }

type (
	publish struct{ msg api.Msg }
	ask     struct {
		msg   api.Msg
		ticks int64
	}
	work struct{ times int64 }
	wait struct{ ticks int64 }
	call struct {
		handler int
		which   int
		arg     api.Datum
		deep    bool
	}
	shutdown struct{}
)

// stepOf is the step that plain data stands for; nil: it is of no kind.
func stepOf(s api.Step) step {
	switch s.Kind {
	case api.StPublish:
		return publish{s.Msg}
	case api.StAsk:
		return ask{s.Msg, s.N}
	case api.StWork:
		return work{s.N}
	case api.StTick:
		return wait{s.N}
	case api.StCall:
		return call{s.Handler, s.Cap, s.Arg, s.Deep}
	case api.StClose:
		return shutdown{}
	}
	return nil
}

func (s publish) fit() bool { return isNew(s.msg) }

func (s ask) fit() bool { return isNew(s.msg) && s.msg.Reply != "" && fits.Tick(s.ticks) }

func (s work) fit() bool { return fits.Tick(s.times) }

func (s wait) fit() bool { return fits.Tick(s.ticks) }

func (s call) fit() bool { return datum.Valid(s.arg) }

func (shutdown) fit() bool { return true }

// isNew tells whether a message is fit and has nothing yet that the bus gives it.
func isNew(m api.Msg) bool {
	return m.Id == 0 && m.At == 0 && m.Hops == 0 && m.Corr >= 0 && fits.Msg(m)
}
