package replay

import (
	"math"

	"conduit/api"
	"conduit/bus"
	"conduit/journal"
	"conduit/packed"
	"conduit/wire"
)

// recording is what was written down: behind each step, in a place of the same number, its events.
type recording struct {
	text   string
	steps  []api.Step
	events [][]api.Event
}

func recordingIn(b []byte) recording {
	l, _, fault := journal.Open(b)
	packed.Need(fault == api.OK && len(l) > 0)
	told := recording{text: textIn(l[0])}
	for _, record := range l[1:] {
		told.take(entryIn(record))
	}
	return told
}

// take puts an entry behind the others.
func (told *recording) take(x entry) {
	switch x := x.(type) {
	case step:
		told.steps = append(told.steps, api.Step(x))
		told.events = append(told.events, nil)
	case event:
		packed.Need(len(told.steps) > 0)
		last := &told.events[len(told.events)-1]
		*last = append(*last, api.Event(x))
	}
}

// textIn is the text of the plan whose record it is.
func textIn(record []byte) string {
	packed.Need(len(record) > 0 && record[0] == planMark)
	return string(record[1:])
}

// entryIn is the entry whose record it is, with nothing behind.
func entryIn(record []byte) entry {
	r := reader{packed.At(record)}
	var x entry
	switch r.Byte() {
	case stepMark:
		x = r.step()
	case eventMark:
		x = r.event()
	}
	packed.Need(x != nil && r.Fault() == api.OK && r.Left() == 0)
	return x
}

// reader reads one record. What its cursor keeps as failed is asked for at the record's end.
type reader struct{ packed.Cursor }

// kind reads a number that is an int.
func (r *reader) kind() int { return int(r.Number(math.MaxInt)) }

// whole reads an int that may be below 0.
func (r *reader) whole() int { return int(r.Signed()) }

func (r *reader) step() step {
	s := api.Step{Kind: r.kind()}
	switch s.Kind {
	case api.StPublish:
		s.Msg = r.message()
	case api.StAsk:
		s.Msg = r.message()
		s.N = r.Signed()
	case api.StWork, api.StTick:
		s.N = r.Signed()
	case api.StCall:
		s.Handler = r.whole()
		s.Cap = r.whole()
		s.Arg = r.value()
		s.Deep = r.Truth()
	}
	packed.Need(bus.Step(s))
	return step(s)
}

func (r *reader) message() (m api.Msg) {
	m.Topic = r.Text(api.MaxBytes)
	m.Body = r.value()
	m.Until = r.Signed()
	m.Reply = r.Text(api.MaxBytes)
	m.Corr = r.Signed()
	m.Prio = r.whole()
	return m
}

func (r *reader) value() api.Datum {
	d, n, fault := wire.ReadDatum(r.Rest())
	packed.Need(fault == api.OK)
	r.Bytes(n)
	return d
}

func (r *reader) event() (e event) {
	e.Kind = r.kind()
	e.At = r.Signed()
	e.Id = r.Signed()
	e.Handler = r.whole()
	e.Corr = r.Signed()
	e.Result = r.result()
	return e
}

func (r *reader) result() (told api.Result) {
	told.Err = api.Errno(r.kind())
	told.Code = r.Signed()
	told.Panic.Kind = r.kind()
	told.Panic.Num = r.Signed()
	if told.Has = r.Truth(); told.Has {
		told.Body = r.value()
	}
	return told
}
