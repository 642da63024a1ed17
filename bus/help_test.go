package bus

import (
	"cmp"
	"math/rand/v2"
	"reflect"
	"slices"
	"strconv"
	"strings"
	"testing"

	"conduit/api"
	"conduit/check"
	"conduit/copies"
	"conduit/datum"
	"conduit/value"
)

const lastTick = 1099511627776 // 2^40

var (
	capWords   = strings.Fields("flush close batch ack ping reset save load name until open")
	panicWords = strings.Fields("- own assert nil index compare divide error")
	eventWords = strings.Fields("- published nobody queued refused dropped late done hops answer expired called closed")
	errWords   = map[api.Errno]string{
		api.ErrFull: "full", api.ErrClosed: "closed", api.ErrShown: "shown", api.ErrNobody: "nobody", api.ErrLate: "late",
		api.ErrOpen: "open", api.ErrLimit: "limit", api.ErrRefuse: "refuse", api.ErrRange: "range", api.ErrTyped: "typed",
	}
)

func newRandom(seed uint64) *rand.Rand { return rand.New(rand.NewPCG(seed, 25)) }

func pick[T any](r *rand.Rand, l ...T) T { return l[r.IntN(len(l))] }

func plan(t testing.TB, config string) api.Plan {
	t.Helper()
	p, f := check.Load([]byte(config))
	if f.Err != api.OK {
		t.Fatalf("%s: %v", config, f)
	}
	return p
}

func read(t testing.TB, s string) api.Datum {
	t.Helper()
	d, e := datum.Parse(s)
	if e != api.OK {
		t.Fatalf("%.100s is no value", s)
	}
	return d
}

func numberOf(t testing.TB, s string) int64 {
	t.Helper()
	n, err := strconv.ParseInt(s, 10, 64)
	if err != nil {
		t.Fatal(err)
	}
	return n
}

func number(n int64) api.Datum { return api.Datum{Kind: api.KInt, Int: n} }

func list(l ...api.Datum) api.Datum { return api.Datum{Kind: api.KList, List: l} }

// publishing is a step that publishes a number.
func publishing(topic string, n int64) api.Step {
	return api.Step{Kind: api.StPublish, Msg: api.Msg{Topic: topic, Body: number(n)}}
}

func asking(topic, reply string, n, ticks int64) api.Step {
	return api.Step{Kind: api.StAsk, Msg: api.Msg{Topic: topic, Body: number(n), Reply: reply}, N: ticks}
}

func working(n int64) api.Step { return api.Step{Kind: api.StWork, N: n} }

func ticking(n int64) api.Step { return api.Step{Kind: api.StTick, N: n} }

func closing() api.Step { return api.Step{Kind: api.StClose} }

// stepIn reads a step: "publish TOPIC BODY" or "ask TOPIC BODY", where "reply=", "corr=", "prio=", "until=" and, of ask, "for=" may stand ahead of the body; "work N", "tick N", "call HANDLER CAP ARG", "deep call ..", "close". Handlers are a, b, c .. or their numbers.
func stepIn(t testing.TB, text string) api.Step {
	t.Helper()
	text, deep := strings.CutPrefix(text, "deep ")
	word, rest, _ := strings.Cut(text, " ")
	switch word {
	case "publish", "ask":
		return messageIn(t, word, rest)
	case "work":
		return working(numberOf(t, rest))
	case "tick":
		return ticking(numberOf(t, rest))
	case "close":
		return closing()
	}
	handler, rest, _ := strings.Cut(rest, " ")
	which, arg, _ := strings.Cut(rest, " ")
	s := api.Step{Kind: api.StCall, Handler: handlerIn(t, handler), Cap: slices.Index(capWords, which), Arg: read(t, arg), Deep: deep}
	if word != "call" || s.Cap < 0 {
		t.Fatalf("%s is no step", text)
	}
	return s
}

func handlerIn(t testing.TB, s string) int {
	if len(s) == 1 && s[0] >= 'a' {
		return int(s[0] - 'a')
	}
	return int(numberOf(t, s))
}

func messageIn(t testing.TB, word, rest string) api.Step {
	t.Helper()
	s := api.Step{Kind: api.StPublish}
	if word == "ask" {
		s.Kind = api.StAsk
	}
	s.Msg.Topic, rest, _ = strings.Cut(rest, " ")
	for {
		first, others, _ := strings.Cut(rest, " ")
		name, said, ok := strings.Cut(first, "=")
		if !ok {
			s.Msg.Body = read(t, rest)
			return s
		}
		rest = others
		switch name {
		case "reply":
			s.Msg.Reply = said
		case "corr":
			s.Msg.Corr = numberOf(t, said)
		case "prio":
			s.Msg.Prio = int(numberOf(t, said))
		case "until":
			s.Msg.Until = numberOf(t, said)
		case "for":
			s.N = numberOf(t, said)
		default:
			t.Fatalf("%s is no field", name)
		}
	}
}

// showResult writes a result, with all that it has.
func showResult(r api.Result) string {
	var s string
	switch {
	case r.Err == api.OK && r.Has:
		s, r.Has = datum.Print(r.Body), false
		r.Body = api.Datum{}
	case r.Err == api.OK:
		s = "none"
	case r.Err == api.ErrHandler:
		s, r.Code = "code "+strconv.FormatInt(r.Code, 10), 0
	case r.Err == api.ErrPanic:
		s, r.Panic = "panic "+panicWords[r.Panic.Kind]+" "+strconv.FormatInt(r.Panic.Num, 10), api.Panic{}
	default:
		s = cmp.Or(errWords[r.Err], r.Err.Error())
	}
	if r.Err = 0; !reflect.DeepEqual(r, api.Result{}) {
		s += " and fields that it has not"
	}
	return s
}

// showEvent writes what an event has: its word, the message, the handler, "to" and the request, the result.
func showEvent(e api.Event) string {
	s := eventWords[e.Kind]
	if e.Id != 0 {
		s += " " + strconv.FormatInt(e.Id, 10)
	}
	switch {
	case 0 <= e.Handler && e.Handler < 26:
		s += " " + string(rune('a'+e.Handler))
	case e.Handler != -1:
		s += " " + strconv.Itoa(e.Handler)
	}
	if e.Corr != 0 {
		s += " to " + strconv.FormatInt(e.Corr, 10)
	}
	switch e.Kind {
	case api.EvRefused, api.EvDone, api.EvAnswer, api.EvCalled, api.EvClosed:
		return s + " " + showResult(e.Result)
	}
	if !reflect.DeepEqual(e.Result, api.Result{}) {
		s += " and a result"
	}
	return s
}

func showAll(l []api.Event) string {
	var s []string
	for _, e := range l {
		s = append(s, showEvent(e))
	}
	return cmp.Or(strings.Join(s, ", "), "-")
}

func sameResult(a, b api.Result) bool {
	return a.Err == b.Err && a.Code == b.Code && a.Panic == b.Panic && a.Has == b.Has && datum.Same(a.Body, b.Body)
}

func sameEvent(a, b api.Event) bool {
	return a.Kind == b.Kind && a.At == b.At && a.Id == b.Id && a.Handler == b.Handler && a.Corr == b.Corr && sameResult(a.Result, b.Result)
}

func sameEvents(a, b []api.Event) bool { return slices.EqualFunc(a, b, sameEvent) }

func sameMsg(a, b api.Msg) bool {
	if !datum.Same(a.Body, b.Body) {
		return false
	}
	a.Body, b.Body = api.Datum{}, api.Datum{}
	return reflect.DeepEqual(a, b)
}

func sameMsgs(a, b []api.Msg) bool { return slices.EqualFunc(a, b, sameMsg) }

func sameCore(a, b api.CoreState) bool {
	return a.Count == b.Count && a.Acked == b.Acked && a.Closed == b.Closed && a.Until == b.Until && datum.Same(a.Last, b.Last) && slices.EqualFunc(a.List, b.List, datum.Same)
}

func sameWrap(a, b api.WrapState) bool {
	return a.Limit == b.Limit && a.Breaker == b.Breaker && slices.Equal(a.Dedup.Ids, b.Dedup.Ids) && sameMsgs(a.Buffer.Msgs, b.Buffer.Msgs) && a.Buffer.Since == b.Buffer.Since && a.Until == b.Until
}

func samePost(a, b api.Post) bool {
	inboxes := sameMsgs(a.Inbox.Msgs, b.Inbox.Msgs) && a.Inbox.Refused == b.Inbox.Refused && a.Inbox.Dropped == b.Inbox.Dropped
	return inboxes && a.Closed == b.Closed && sameMsgs(a.Held, b.Held) && sameCore(a.Built.Core, b.Built.Core) && slices.EqualFunc(a.Built.Wraps, b.Built.Wraps, sameWrap)
}

// same holds two states against each other, field by field; lists that are empty may be nil.
func same(a, b api.Bus) bool {
	return a.Now == b.Now && a.Next == b.Next && a.Turn == b.Turn && a.Asks.Next == b.Asks.Next && slices.Equal(a.Asks.Wait, b.Asks.Wait) && slices.EqualFunc(a.Posts, b.Posts, samePost)
}

// asSaid holds what a step does against the chapter, and against P25.4, where that promises something.
func asSaid(t testing.TB, p api.Plan, st api.Bus, s api.Step) (api.Bus, []api.Event) {
	t.Helper()
	got, events := Do(p, st, s)
	want, wantEvents := chapterDo(p, st, s)
	if !sameEvents(events, wantEvents) {
		t.Fatalf("%s%.500v, %.500v:\n%.2000s, not\n%.2000s", check.Write(p), st, s, showAll(events), showAll(wantEvents))
	}
	if !same(got, want) {
		t.Fatalf("%s%.2000v, %.500v:\n%.2000v, not\n%.2000v", check.Write(p), st, s, got, want)
	}
	if got.Next < 1<<60 && countsBelow(got, 1<<60) && !Fit(p, got) {
		t.Fatalf("%s%.500v, %.500v: %.2000v is not fit", check.Write(p), st, s, got)
	}
	for _, e := range events {
		if e.At != got.Now {
			t.Fatalf("%s%.500v, %.500v: at %d: %v", check.Write(p), st, s, got.Now, e)
		}
	}
	return got, events
}

func countsBelow(st api.Bus, n int64) bool {
	return !slices.ContainsFunc(st.Posts, func(x api.Post) bool { return x.Inbox.Refused >= n || x.Inbox.Dropped >= n })
}

// play does steps, one after another, from the first state on, and holds the events against what is written behind " => ", and all against the chapter, Do against Run.
func play(t *testing.T, config string, lines ...string) api.Bus {
	t.Helper()
	p := plan(t, config)
	st := playFrom(t, p, New(p), lines...)
	var steps []api.Step
	for _, line := range lines {
		text, _, _ := strings.Cut(line, " => ")
		steps = append(steps, stepIn(t, text))
	}
	last, all := Run(p, steps)
	if !same(last, st) || len(all) != len(lines) {
		t.Errorf("%s: Run comes to %v, with %d rows of events, Do to %v", config, last, len(all), st)
	}
	for i, line := range lines {
		if _, want, _ := strings.Cut(line, " => "); showAll(all[i]) != want {
			t.Errorf("%s: Run: %s: %s", config, line, showAll(all[i]))
		}
	}
	return st
}

func playFrom(t *testing.T, p api.Plan, st api.Bus, lines ...string) api.Bus {
	t.Helper()
	for _, line := range lines {
		text, want, ok := strings.Cut(line, " => ")
		s := stepIn(t, text)
		if !ok || !Step(s) {
			t.Fatalf("%s is no fit step with events", line)
		}
		next, events := asSaid(t, p, st, s)
		if got := showAll(events); got != want {
			t.Errorf("%s%s: %s", check.Write(p), line, got)
		}
		st = next
	}
	return st
}

// must is the state that steps lead to.
func must(t testing.TB, p api.Plan, st api.Bus, l ...api.Step) api.Bus {
	t.Helper()
	for _, s := range l {
		st, _ = asSaid(t, p, st, s)
	}
	return st
}

var (
	someCores = []string{
		"echo", "echo caps flush, close", "echo caps close, until", "count", "count caps close, save, load, flush, batch", "store 2", "store caps flush, close, ping, reset",
		"sum", "sum caps save, load, close", "size", "unbox", "fail 3", "fail -1", "fail 2 caps close, ping", "panic", "panic caps close", "nth 0", "none", "mute", "less caps flush, batch, ack, until",
	}
	someWraps = []string{
		"through", "open through", "mask caps close", "open mask caps flush", "hide", "open hide", "give caps flush, ping, close, name", "retry 3", "limit 2 3", "breaker 2 4",
		"dedup 2", "buffer 2 0", "buffer 3 4", "open buffer 2 1", "buffer 2 0", "buffer 4 2", "filter when int", "filter when !text", "map:double", "map:list", "map:pair", "until 3", "open until 9",
	}
	someFilters = []string{"x", "x", "y", "r", "r", "r", "x/#", "x/+", "#", "+", "r/#", "$s"}
	someNames   = []string{"x", "x", "x", "y", "r", "r", "x/1", "$s", "z"}
	someValues  = []string{"5", "1", "2", "-7", `"t"`, "nil", "[1, 2]", "[[3], 4]", `(1, "x")`, "&1(5)", "&nil", "true", "f3ff0000000000000", `!3"e"`, "%00ff"}
)

// randomPlan has handlers that pass messages to one another by their answers, and rooms that are soon full.
func randomPlan(t testing.TB, r *rand.Rand) api.Plan {
	t.Helper()
	var b strings.Builder
	n := pick(r, 0, 1, 2, 3, 3, 4, 6)
	for h := range n {
		b.WriteString("handler h" + strconv.Itoa(h) + " = " + pick(r, someCores...))
		for range pick(r, 0, 0, 1, 1, 2, 3) {
			b.WriteString(" with " + pick(r, someWraps...))
		}
		if r.IntN(2) == 0 {
			b.WriteString(" inbox " + strconv.Itoa(1+r.IntN(3)) + " drop " + pick(r, "new", "old", "none"))
		}
		for i, other := range r.Perm(n)[:r.IntN(min(n, 2)+1)] {
			b.WriteString([]string{" after h", ", h"}[i] + strconv.Itoa(other))
		}
		b.WriteString(";\n")
	}
	for range pick(r, 0, n, 2*n, 3*n) {
		if n > 0 {
			b.WriteString("route \"" + pick(r, someFilters...) + "\"" + pick(r, "", "", "", " when int", " when any", " else") + " -> h" + strconv.Itoa(r.IntN(n)) + ";\n")
		}
	}
	return plan(t, b.String())
}

func randomValue(t testing.TB, r *rand.Rand) api.Datum { return read(t, pick(r, someValues...)) }

func randomTick(r *rand.Rand) int64 {
	return pick(r, 0, r.Int64N(12), r.Int64N(12), lastTick-r.Int64N(4))
}

// randomStep is fit; most publish and work.
func randomStep(t testing.TB, r *rand.Rand, p api.Plan) api.Step {
	t.Helper()
	s := api.Step{Kind: pick(r, api.StPublish, api.StPublish, api.StPublish, api.StAsk, api.StAsk, api.StWork, api.StWork, api.StTick, api.StCall)}
	switch s.Kind {
	case api.StPublish, api.StAsk:
		s.Msg = api.Msg{Topic: pick(r, someNames...), Body: randomValue(t, r), Until: pick(r, 0, 0, randomTick(r)), Corr: pick(r, 0, 0, r.Int64N(5)), Prio: r.IntN(4)}
		s.Msg.Reply = pick(r, "r", "r", "x")
		if s.Kind == api.StPublish {
			s.Msg.Reply = pick(r, "", "", "r", "x", "y")
		}
		s.N = pick(r, 0, 1, r.Int64N(9), lastTick)
	case api.StWork:
		s.N = pick(r, 1, 1, r.Int64N(6), 40)
	case api.StTick:
		s.N = pick(r, 0, 1, 2, r.Int64N(9))
	case api.StCall:
		s.Handler, s.Cap, s.Deep = r.IntN(len(p.Handlers)+1), r.IntN(api.NumCaps), r.IntN(2) == 0
		if r.IntN(9) == 0 {
			s.Handler, s.Cap = pick(r, -1, 64), pick(r, -1, api.NumCaps)
		}
		s.Arg = pick(r, randomValue(t, r), list(number(1), list(number(3))), read(t, "([2, 3, 0, false], (7, []))"))
	}
	if r.IntN(60) == 0 {
		s = closing()
	}
	return s
}

// randomState is fit: one that steps have led to, where much is another thing than steps would make of it.
func randomState(t testing.TB, r *rand.Rand, p api.Plan) api.Bus {
	t.Helper()
	st := New(p)
	for range r.IntN(12) {
		st, _ = Do(p, st, randomStep(t, r, p))
	}
	if r.IntN(2) == 0 {
		st.Now, st.Next = randomTick(r), pick(r, st.Next, r.Int64N(5), 1<<59)
		st.Asks = randomAsks(r)
	}
	for h := range st.Posts {
		if r.IntN(3) > 0 {
			continue
		}
		post := &st.Posts[h]
		post.Closed = r.IntN(3) == 0
		post.Inbox.Refused, post.Inbox.Dropped = r.Int64N(9), r.Int64N(9)
		post.Inbox.Msgs = randomMsgs(t, r, st.Next, min(p.Handlers[h].Inbox, 6))
		post.Held = randomMsgs(t, r, st.Next, 4)
	}
	st.Turn = r.IntN(max(len(p.Handlers), 1))
	if !Fit(p, st) {
		t.Fatalf("%s%v is not fit", check.Write(p), st)
	}
	return st
}

func randomAsks(r *rand.Rand) (st api.Asks) {
	for range r.IntN(5) {
		st.Next += 1 + r.Int64N(2)
		st.Wait = append(st.Wait, api.Ask{Corr: st.Next, Until: randomTick(r), Topic: pick(r, "r", "r", "x")})
	}
	return st
}

// randomMsgs are fit ones, whose numbers may be those of others, and of ones to come.
func randomMsgs(t testing.TB, r *rand.Rand, next int64, most int) (l []api.Msg) {
	for range r.IntN(most + 1) {
		l = append(l, api.Msg{
			Id: pick(r, r.Int64N(6), next, next+1, next+2, -1), Topic: pick(r, someNames...), Body: randomValue(t, r), At: randomTick(r), Until: pick(r, 0, randomTick(r)),
			Reply: pick(r, "", "r", "x"), Corr: r.Int64N(5) - 1, Prio: r.IntN(4), Hops: pick(r, 0, r.IntN(9), 8),
		})
	}
	return l
}

func copied(st api.Bus) api.Bus { return copies.Bus(st) }

func copiedEvents(l []api.Event) []api.Event {
	l = slices.Clone(l)
	for i := range l {
		l[i].Result.Body = value.Copy(l[i].Result.Body)
	}
	return l
}
