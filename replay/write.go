package replay

import (
	"iter"

	"conduit/api"
	"conduit/bus"
	"conduit/check"
	"conduit/journal"
	"conduit/packed"
	"conduit/wire"
)

// A record's first byte tells what it is of.
const (
	planMark  = 0
	stepMark  = 1
	eventMark = 2
)

// entry is what a record behind the plan's is of: a step or an event.
type entry interface{ mark() byte }

type (
	step  api.Step
	event api.Event
)

func (step) mark() byte { return stepMark }

func (event) mark() byte { return eventMark }

// records is what a recording is made of, in its order.
func records(p api.Plan, l []api.Step) iter.Seq[[]byte] {
	return func(yield func([]byte) bool) {
		if !yield(append([]byte{planMark}, check.Write(p)...)) {
			return
		}
		_, events := bus.Run(p, l)
		for i, s := range l {
			if !yield(Step(s)) {
				return
			}
			for _, e := range events[i] {
				if !yield(Event(e)) {
					return
				}
			}
		}
	}
}

// framed is a record as it stands in a journal. It is put into one of its own, as Append goes over all that stands in a journal, each time.
func framed(record []byte) ([]byte, api.Errno) {
	empty := journal.New()
	one, fault := journal.Append(empty, record)
	if fault != api.OK {
		return nil, fault
	}
	return one[len(empty):], api.OK
}

// recordOf writes an entry.
func recordOf(x entry) []byte {
	b := []byte{x.mark()}
	switch x := x.(type) {
	case step:
		b = appendStep(b, x)
	case event:
		b = appendEvent(b, x)
	}
	return b
}

func appendStep(b []byte, s step) []byte {
	b = packed.AppendNumber(b, uint64(s.Kind))
	switch s.Kind {
	case api.StPublish:
		b = appendMsg(b, s.Msg)
	case api.StAsk:
		b = appendMsg(b, s.Msg)
		b = packed.AppendSigned(b, s.N)
	case api.StWork, api.StTick:
		b = packed.AppendSigned(b, s.N)
	case api.StCall:
		b = packed.AppendSigned(b, int64(s.Handler))
		b = packed.AppendSigned(b, int64(s.Cap))
		b = appendValue(b, s.Arg)
		b = packed.AppendTruth(b, s.Deep)
	}
	return b
}

// appendMsg writes what a message has that the bus does not give it.
func appendMsg(b []byte, m api.Msg) []byte {
	b = packed.AppendText(b, m.Topic)
	b = appendValue(b, m.Body)
	b = packed.AppendSigned(b, m.Until)
	b = packed.AppendText(b, m.Reply)
	b = packed.AppendSigned(b, m.Corr)
	return packed.AppendSigned(b, int64(m.Prio))
}

func appendValue(b []byte, d api.Datum) []byte { return append(b, wire.Datum(d)...) }

func appendEvent(b []byte, e event) []byte {
	b = packed.AppendNumber(b, uint64(e.Kind))
	for _, n := range [...]int64{e.At, e.Id, int64(e.Handler), e.Corr} {
		b = packed.AppendSigned(b, n)
	}
	return appendResult(b, e.Result)
}

func appendResult(b []byte, r api.Result) []byte {
	b = packed.AppendNumber(b, uint64(r.Err))
	b = packed.AppendSigned(b, r.Code)
	b = packed.AppendNumber(b, uint64(r.Panic.Kind))
	b = packed.AppendSigned(b, r.Panic.Num)
	b = packed.AppendTruth(b, r.Has)
	if r.Has {
		b = appendValue(b, r.Body)
	}
	return b
}
