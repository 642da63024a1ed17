package replay

import (
	"bytes"
	"encoding/binary"
	"math"
	"math/rand/v2"
	"reflect"
	"slices"
	"strconv"
	"strings"
	"testing"

	"conduit/api"
	"conduit/bus"
	"conduit/check"
	"conduit/datum"
	"conduit/journal"
	"conduit/wire"
)

func newRandom(seed uint64) *rand.Rand { return rand.New(rand.NewPCG(seed, 28)) }

func pick[T any](r *rand.Rand, l ...T) T { return l[r.IntN(len(l))] }

func plan(t testing.TB, config string) api.Plan {
	t.Helper()
	p, f := check.Load([]byte(config))
	if f.Err != api.OK {
		t.Fatalf("%.200s: %v", config, f)
	}
	return p
}

func read(t testing.TB, s string) api.Datum {
	t.Helper()
	d, e := datum.Parse(s)
	if e != api.OK {
		t.Fatalf("%.100s is no value", s)
	}
	return d
}

func number(n int64) api.Datum { return api.Datum{Kind: api.KInt, Int: n} }

func text(s string) api.Datum { return api.Datum{Kind: api.KText, Text: s} }

func list(l ...api.Datum) api.Datum { return api.Datum{Kind: api.KList, List: l} }

func publishing(topic string, body api.Datum) api.Step {
	return api.Step{Kind: api.StPublish, Msg: api.Msg{Topic: topic, Body: body}}
}

func working(n int64) api.Step { return api.Step{Kind: api.StWork, N: n} }

func ticking(n int64) api.Step { return api.Step{Kind: api.StTick, N: n} }

func closing() api.Step { return api.Step{Kind: api.StClose} }

// chapterBytes is fields one behind the other: ints as signed numbers, unsigned ones as numbers.
func chapterBytes(fields ...any) (b []byte) {
	for _, f := range fields {
		switch f := f.(type) {
		case byte:
			b = append(b, f)
		case uint64:
			b = binary.AppendUvarint(b, f)
		case int64:
			b = binary.AppendVarint(b, f)
		case int:
			b = binary.AppendVarint(b, int64(f))
		case string:
			b = append(binary.AppendUvarint(b, uint64(len(f))), f...)
		case api.Datum:
			b = append(b, wire.Datum(f)...)
		case bool:
			b = append(b, map[bool]byte{true: 1}[f])
		}
	}
	return b
}

// chapterStep is P28.1.
func chapterStep(s api.Step) []byte {
	m := s.Msg
	fields := map[int][]any{
		api.StPublish: {m.Topic, m.Body, m.Until, m.Reply, m.Corr, m.Prio},
		api.StAsk:     {m.Topic, m.Body, m.Until, m.Reply, m.Corr, m.Prio, s.N},
		api.StWork:    {s.N},
		api.StTick:    {s.N},
		api.StCall:    {s.Handler, s.Cap, s.Arg, s.Deep},
	}
	return slices.Concat([]byte{1}, chapterBytes(uint64(s.Kind)), chapterBytes(fields[s.Kind]...))
}

// chapterEvent is P28.1.
func chapterEvent(e api.Event) []byte {
	r := e.Result
	b := chapterBytes(byte(2), uint64(e.Kind), e.At, e.Id, e.Handler, e.Corr, uint64(r.Err), r.Code, uint64(r.Panic.Kind), r.Panic.Num, r.Has)
	if r.Has {
		b = append(b, wire.Datum(r.Body)...)
	}
	return b
}

func planRecord(s string) []byte { return append([]byte{0}, s...) }

// chapterEvents is what bus.Run tells, step by step.
func chapterEvents(p api.Plan, l []api.Step) (out [][]api.Event) {
	st := bus.New(p)
	for _, s := range l {
		next, events := bus.Do(p, st, s)
		st, out = next, append(out, events)
	}
	return out
}

// chapterRecords is what a recording is made of.
func chapterRecords(p api.Plan, l []api.Step) [][]byte {
	out := [][]byte{planRecord(check.Write(p))}
	for i, events := range chapterEvents(p, l) {
		out = append(out, chapterStep(l[i]))
		for _, e := range events {
			out = append(out, chapterEvent(e))
		}
	}
	return out
}

// journalOf is a journal of records, each of which must not be too long.
func journalOf(t testing.TB, records ...[]byte) []byte {
	t.Helper()
	b := journal.New()
	for _, record := range records {
		one, e := journal.Append(journal.New(), record)
		if e != api.OK {
			t.Fatalf("%d bytes: %v", len(record), e)
		}
		b = append(b, one[len(journal.New()):]...)
	}
	return b
}

// chapterRecord is P28.2.
func chapterRecord(t testing.TB, p api.Plan, l []api.Step) ([]byte, api.Errno) {
	t.Helper()
	records := chapterRecords(p, l)
	if slices.ContainsFunc(records, func(record []byte) bool { return len(record) > 65535 }) {
		return nil, api.ErrRecord
	}
	return journalOf(t, records...), api.OK
}

// loose reads fields, be they written in more bytes than it takes, too; what is none is nought.
type loose struct{ b []byte }

func (x *loose) skip(n int) { x.b = x.b[max(0, min(n, len(x.b))):] }

func (x *loose) number() int64 {
	v, n := binary.Uvarint(x.b)
	x.skip(n)
	return int64(v)
}

func (x *loose) signed() int64 {
	v, n := binary.Varint(x.b)
	x.skip(n)
	return v
}

func (x *loose) text() string {
	n := x.number()
	if n < 0 || n > int64(len(x.b)) {
		return ""
	}
	s := string(x.b[:n])
	x.skip(int(n))
	return s
}

func (x *loose) truth() bool {
	is := len(x.b) > 0 && x.b[0] == 1
	x.skip(1)
	return is
}

func (x *loose) value() api.Datum {
	d, n, _ := wire.ReadDatum(x.b)
	x.skip(n)
	return d
}

func (x *loose) step() (s api.Step) {
	s.Kind = int(x.number())
	switch s.Kind {
	case api.StPublish, api.StAsk:
		s.Msg.Topic = x.text()
		s.Msg.Body = x.value()
		s.Msg.Until = x.signed()
		s.Msg.Reply = x.text()
		s.Msg.Corr = x.signed()
		s.Msg.Prio = int(x.signed())
	case api.StCall:
		s.Handler = int(x.signed())
		s.Cap = int(x.signed())
		s.Arg = x.value()
		s.Deep = x.truth()
	}
	if s.Kind == api.StAsk || s.Kind == api.StWork || s.Kind == api.StTick {
		s.N = x.signed()
	}
	return s
}

func (x *loose) event() (e api.Event) {
	e.Kind = int(x.number())
	e.At = x.signed()
	e.Id = x.signed()
	e.Handler = int(x.signed())
	e.Corr = x.signed()
	e.Result.Err = api.Errno(x.number())
	e.Result.Code = x.signed()
	e.Result.Panic.Kind = int(x.number())
	e.Result.Panic.Num = x.signed()
	if e.Result.Has = x.truth(); e.Result.Has {
		e.Result.Body = x.value()
	}
	return e
}

// stepIn and eventIn tell whether a record is one: read loosely, and written again.
func stepIn(record []byte) (api.Step, bool) {
	x := loose{bytes.TrimPrefix(record, []byte{1})}
	s := x.step()
	return s, bus.Step(s) && bytes.Equal(chapterStep(s), record)
}

func eventIn(record []byte) (api.Event, bool) {
	x := loose{bytes.TrimPrefix(record, []byte{2})}
	e := x.event()
	return e, e.Kind >= 0 && e.Result.Err >= 0 && e.Result.Panic.Kind >= 0 && datum.Valid(e.Result.Body) && bytes.Equal(chapterEvent(e), record)
}

// told is what Read answers.
type told struct {
	text   string
	steps  []api.Step
	events [][]api.Event
	e      api.Errno
}

func toldOf(b []byte) told {
	text, steps, events, e := Read(b)
	return told{text, steps, events, e}
}

// chapterRead is P28.3.
func chapterRead(b []byte) told {
	none := told{e: api.ErrForm}
	records, _, e := journal.Open(b)
	if e != api.OK || len(records) == 0 || !bytes.HasPrefix(records[0], []byte{0}) {
		return none
	}
	x := told{text: string(records[0][1:])}
	for i, record := range records[1:] {
		s, isStep := stepIn(record)
		e, isEvent := eventIn(record)
		switch {
		case isStep:
			x.steps, x.events = append(x.steps, s), append(x.events, nil)
		case isEvent && i > 0:
			x.events[len(x.events)-1] = append(x.events[len(x.events)-1], e)
		default:
			return none
		}
	}
	return x
}

// chapterPlay is P28.4.
func chapterPlay(p api.Plan, b []byte) (api.Diff, api.Errno) {
	x := chapterRead(b)
	switch {
	case x.e != api.OK:
		return api.Diff{}, x.e
	case x.text != check.Write(p):
		return api.Diff{Is: true, Step: -1}, api.OK
	}
	for i, events := range chapterEvents(p, x.steps) {
		at := 0
		for at < len(events) && at < len(x.events[i]) && sameEvent(events[at], x.events[i][at]) {
			at++
		}
		if at < len(events) || at < len(x.events[i]) {
			return api.Diff{Is: true, Step: i, Event: at}, api.OK
		}
	}
	return api.Diff{}, api.OK
}

func sameResult(a, b api.Result) bool {
	return a.Err == b.Err && a.Code == b.Code && a.Panic == b.Panic && a.Has == b.Has && datum.Same(a.Body, b.Body)
}

func sameEvent(a, b api.Event) bool {
	return a.Kind == b.Kind && a.At == b.At && a.Id == b.Id && a.Handler == b.Handler && a.Corr == b.Corr && sameResult(a.Result, b.Result)
}

func sameEvents(a, b []api.Event) bool { return slices.EqualFunc(a, b, sameEvent) }

func sameStep(a, b api.Step) bool {
	if !datum.Same(a.Msg.Body, b.Msg.Body) || !datum.Same(a.Arg, b.Arg) {
		return false
	}
	for _, s := range []*api.Step{&a, &b} {
		s.Msg.Body, s.Arg = api.Datum{}, api.Datum{}
	}
	return reflect.DeepEqual(a, b)
}

func sameTold(a, b told) bool {
	return a.text == b.text && a.e == b.e && slices.EqualFunc(a.steps, b.steps, sameStep) && slices.EqualFunc(a.events, b.events, sameEvents)
}

func short(b []byte) []byte { return b[:min(len(b), 200)] }

// readAsSaid holds what Read answers against P28.3.
func readAsSaid(t testing.TB, b []byte) told {
	t.Helper()
	got, want := toldOf(b), chapterRead(b)
	if !sameTold(got, want) {
		t.Fatalf("Read of %d bytes, % x: %.1000v, not %.1000v", len(b), short(b), got, want)
	}
	return got
}

// playAsSaid holds what Play answers against P28.4.
func playAsSaid(t testing.TB, p api.Plan, b []byte) (api.Diff, api.Errno) {
	t.Helper()
	d, e := Play(p, b)
	if want, wantE := chapterPlay(p, b); d != want || e != wantE {
		t.Fatalf("%sPlay of %d bytes, % x: %v, %v, not %v, %v", check.Write(p), len(b), short(b), d, e, want, wantE)
	}
	return d, e
}

// recordAsSaid holds what Record answers against P28.2.
func recordAsSaid(t testing.TB, p api.Plan, l []api.Step) ([]byte, api.Errno) {
	t.Helper()
	b, e := Record(p, l)
	if want, wantE := chapterRecord(t, p, l); !bytes.Equal(b, want) || e != wantE {
		t.Fatalf("%.1000s%.1000v: % x, %v, not % x, %v", check.Write(p), l, short(b), e, short(want), wantE)
	}
	return b, e
}

var (
	someHandlers = []string{
		"echo", "count", "echo caps flush, close", "count caps save, load, close", "store 2", "sum with retry 2", "size", "unbox", "fail -3", "panic", "nth 0", "none", "mute caps close, ping", "less caps until",
		"echo with buffer 2 0", "count with buffer 2 3", "echo with limit 1 3", "fail 2 with breaker 2 4", "echo with filter when int", "echo with map:pair", "echo with dedup 2", "echo with until 3",
	}
	someFilters = []string{"x", "x", "y", "r", "r", "#", "x/+"}
	someTopics  = []string{"x", "x", "x", "r", "y", "x/1", "$s"}
	someValues  = []string{"5", "1", "-7", "300", `"t"`, "nil", "[1, 2]", "[[3], 4]", `(1, "x")`, "&1(5)", "&nil", "true", "f7ff8000000000001", `!3"e"`, "%00ff", "{}"}
)

// randomPlan has handlers that pass messages to one another by their answers, and rooms that are soon full.
func randomPlan(t testing.TB, r *rand.Rand) api.Plan {
	t.Helper()
	var b strings.Builder
	n := pick(r, 0, 1, 2, 3, 3)
	for h := range n {
		b.WriteString("handler h" + strconv.Itoa(h) + " = " + pick(r, someHandlers...) + pick(r, "", "", " inbox 1 drop old", " inbox 2 drop none", " inbox 1") + ";")
	}
	for range 2 * n {
		b.WriteString("route \"" + pick(r, someFilters...) + "\"" + pick(r, "", "", "", " when int", " else") + " -> h" + strconv.Itoa(r.IntN(n)) + ";")
	}
	return plan(t, b.String())
}

func randomInt(r *rand.Rand) int64 {
	return pick(r, 0, -1, r.Int64N(200)-100, math.MaxInt64, math.MinInt64, int64(r.Uint64()))
}

func randomTick(r *rand.Rand) int64 {
	return pick(r, 0, r.Int64N(9), r.Int64N(9), api.MaxTick, r.Int64N(api.MaxTick))
}

func randomMsg(t testing.TB, r *rand.Rand) api.Msg {
	t.Helper()
	return api.Msg{
		Topic: pick(r, someTopics...), Body: read(t, pick(r, someValues...)), Until: pick(r, 0, 0, randomTick(r)),
		Reply: pick(r, "r", "r", "x", "y"), Corr: pick(r, 0, 0, r.Int64N(4), randomInt(r)&math.MaxInt64), Prio: pick(r, 0, 1, int(randomInt(r))),
	}
}

// randomStep is fit, with nothing in the fields that its kind does not have.
func randomStep(t testing.TB, r *rand.Rand) api.Step {
	t.Helper()
	s := api.Step{Kind: pick(r, api.StPublish, api.StPublish, api.StPublish, api.StAsk, api.StWork, api.StWork, api.StTick, api.StCall)}
	switch s.Kind {
	case api.StPublish:
		s.Msg = randomMsg(t, r)
		s.Msg.Reply = pick(r, "", "", s.Msg.Reply)
	case api.StAsk:
		s.Msg, s.N = randomMsg(t, r), randomTick(r)
	case api.StWork:
		s.N = pick(r, 1, 1, r.Int64N(6), 200)
	case api.StTick:
		s.N = pick(r, 0, 1, 2, r.Int64N(9))
	case api.StCall:
		s.Handler, s.Cap, s.Deep = pick(r, 0, 1, 2, -1, int(randomInt(r))), pick(r, r.IntN(api.NumCaps), int(randomInt(r))), r.IntN(2) == 0
		s.Arg = pick(r, read(t, pick(r, someValues...)), list(number(1), list(number(3))), read(t, "([2, 3, 0, false], (7, []))"))
	}
	if r.IntN(30) == 0 {
		return closing()
	}
	return s
}

func randomSteps(t testing.TB, r *rand.Rand) (l []api.Step) {
	t.Helper()
	for range r.IntN(20) {
		l = append(l, randomStep(t, r))
	}
	return l
}

// filledUp is a step with something in the fields that its kind does not have, as far as it stays a fit one.
func filledUp(s api.Step) api.Step {
	published := s.Kind == api.StPublish || s.Kind == api.StAsk
	if !published {
		s.Msg = api.Msg{Id: -1, Topic: "#", Body: api.Datum{Kind: -1}, At: -1, Until: -1, Reply: "#", Corr: -1, Prio: 7, Hops: -1}
	}
	if s.Kind == api.StPublish || s.Kind == api.StCall || s.Kind == api.StClose {
		s.N = -1
	}
	if s.Kind != api.StCall {
		s.Handler, s.Cap, s.Arg, s.Deep = 7, 7, api.Datum{Kind: -1, List: make([]api.Datum, 2)}, true
	}
	return s
}

// randomEvent is such as Event is promised to write, mostly not one that a bus tells.
func randomEvent(t testing.TB, r *rand.Rand) api.Event {
	t.Helper()
	above := func() int { return int(pick(r, 0, r.Int64N(13), randomInt(r)&math.MaxInt64)) }
	e := api.Event{Kind: above(), At: randomInt(r), Id: randomInt(r), Handler: int(randomInt(r)), Corr: randomInt(r)}
	e.Result = api.Result{Err: api.Errno(above()), Code: randomInt(r), Panic: api.Panic{Kind: above(), Num: randomInt(r)}, Has: r.IntN(2) == 0}
	if e.Result.Has {
		e.Result.Body = read(t, pick(r, someValues...))
	}
	return e
}

// turned is bytes of which a few are others, or are gone, or have others between.
func turned(r *rand.Rand, b []byte) []byte {
	b = bytes.Clone(b)
	for range 1 + r.IntN(2) {
		at := r.IntN(len(b) + 1)
		x := pick(r, 0, 1, 2, 127, 128, 255, byte(r.IntN(14)), byte(r.Uint32()))
		switch {
		case r.IntN(4) == 0:
			b = slices.Insert(b, at, x)
		case at == len(b):
			b = b[:r.IntN(len(b)+1)]
		case r.IntN(4) == 0:
			b = slices.Delete(b, at, at+1)
		default:
			b[at] = x
		}
	}
	return b
}
