package desk

import (
	"strconv"
	"strings"

	"conduit/api"
	"conduit/datum"
)

// tellAll writes events, a line each.
func (o *opened) tellAll(events []api.Event) string {
	var b strings.Builder
	for _, e := range events {
		b.WriteString(o.tell(e) + "\n")
	}
	return b.String()
}

func (o *opened) tell(e api.Event) string {
	id, corr, name := strconv.FormatInt(e.Id, 10), strconv.FormatInt(e.Corr, 10), o.nameOf(e.Handler)
	switch e.Kind {
	case api.EvPublished:
		return "published " + id
	case api.EvNobody:
		return "nobody " + id
	case api.EvQueued:
		return "queued " + id + " " + name
	case api.EvRefused:
		return "refused " + id + " " + name + " " + outcome(e.Result)
	case api.EvDropped:
		return "dropped " + id + " " + name
	case api.EvLate:
		return "late " + id + " " + name
	case api.EvDone:
		return "done " + id + " " + name + " " + outcome(e.Result)
	case api.EvHops:
		return "hops " + id + " " + name
	case api.EvAnswer:
		return "answer " + id + " " + corr + " " + outcome(e.Result)
	case api.EvExpired:
		return "expired " + corr
	case api.EvCalled:
		return "called " + name + " " + outcome(e.Result)
	}
	return "closed " + name + " " + outcome(e.Result)
}

func (o *opened) nameOf(handler int) string {
	if handler < 0 || handler >= len(o.plan.Handlers) {
		return "-"
	}
	return o.plan.Handlers[handler].Name
}

// outcome writes a result.
func outcome(r api.Result) string {
	switch {
	case r.Err == api.ErrHandler:
		return failure(r.Err) + " code " + strconv.FormatInt(r.Code, 10)
	case r.Err == api.ErrPanic:
		return "panic " + strconv.Itoa(r.Panic.Kind) + " " + strconv.FormatInt(r.Panic.Num, 10)
	case r.Err != api.OK:
		return failure(r.Err)
	case r.Has:
		return "ok " + datum.Print(r.Body)
	}
	return "ok"
}
