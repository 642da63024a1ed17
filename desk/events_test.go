package desk

import (
	"math"
	"strings"
	"testing"

	"conduit/api"
	"conduit/check"
)

// P33.1, "an event": each kind's line, with just what it tells, as it comes about.
func TestEvents(t *testing.T) {
	for _, c := range []struct{ name, lines, want string }{
		{"refused, full", "add handler a = count inbox 1 drop none; route \"x\" -> a;\nopen\npublish x 1\npublish x 2", "open\npublished 1\nqueued 1 a\npublished 2\nrefused 2 a error 190\n"},
		{"refused, closed", "add handler a = count; route \"x\" -> a;\nopen\nclose\npublish x 1", "open\nclosed a ok\npublished 1\nrefused 1 a error 200\n"},
		{"refused, of no handler", "open\n" + strings.Repeat("ask x r 0 5\n", 1024) + "ask x r 0 5\npublish x 5", "open\n" + manyAsked(1024) + "refused 0 - error 190\npublished 1025\nnobody 1025\n"},
		{"dropped", "add handler a = count inbox 1 drop old; route \"x\" -> a;\nopen\npublish x 1\npublish x 2\nclose", "open\npublished 1\nqueued 1 a\npublished 2\ndropped 1 a\nqueued 2 a\ndropped 2 a\nclosed a ok\n"},
		{"hops", "add handler a = echo; handler b = mute; route \"x\" -> b; route \"x\" -> a;\nopen\nask y x 1 5\ntick 2\nask x x 0 5", "open\npublished 1\nnobody 1\nexpired 1\npublished 2\nanswer 2 2 ok 5\n"},
		{"answer, late", "add handler a = echo; route \"x\" -> a;\nopen\nask x r 2 (1, \"z\")\ntick 2\nwork 1\nask x r 2 (1, \"z\")\ntick 3\nwork 1", "open\npublished 1\nqueued 1 a\ndone 1 a ok (1, \"z\")\npublished 2\nanswer 2 1 ok (1, \"z\")\npublished 3\nqueued 3 a\nexpired 2\ndone 3 a ok (1, \"z\")\npublished 4\nnobody 4\n"},
		{"expired, each", "open\nask x r 2 5\nask x r 1 5\nask x r 0 5\ntick 1\ntick 1\ntick 1\ntick 10000", "open\npublished 1\nnobody 1\npublished 2\nnobody 2\npublished 3\nnobody 3\nexpired 2\nexpired 1\n"},
		{"called, no result with a value", "add handler a = mute caps ack, close, until, name, ping; route \"x\" -> a;\nopen\npublish x 1\nwork 1\ncall a ping\ncall a name\ncall a until 7\ncall a close", "open\npublished 1\nqueued 1 a\ndone 1 a ok\ncalled a ok true\ncalled a ok \"mute\"\ncalled a ok\ncalled a ok\n"},
		{"closed, an error", "add handler a = fail 7 caps close, flush; handler b = panic 8 caps close; handler c = echo caps flush; handler d = none caps close;\nopen\nclose", "open\nclosed a error 100 code 7\nclosed b panic 1 8\nclosed c ok\nclosed d ok\n"},
		{"done, all sorts", "add handler a = fail -3; handler b = panic -9; handler c = none; handler e = mute; handler f = echo; handler g = sum; handler h = echo with filter when nil;\nadd route \"x\" -> a; route \"x\" -> b; route \"x\" -> c; route \"x\" -> e; route \"x\" -> f; route \"x\" -> g; route \"x\" -> h;\nopen\npublish x {}\nwork 9",
			"open\npublished 1\nqueued 1 a\nqueued 1 b\nqueued 1 c\nqueued 1 e\nqueued 1 f\nqueued 1 g\nqueued 1 h\ndone 1 a error 100 code -3\ndone 1 b panic 7 -9\ndone 1 c error 101\ndone 1 e ok\ndone 1 f ok {}\ndone 1 g error 100 code 2\ndone 1 h error 171\n"},
	} {
		t.Run(c.name, func(t *testing.T) {
			plays(t, c.lines, c.want)
		})
	}
}

// manyAsked is what so many requests come to that no route takes.
func manyAsked(n int) string {
	var b strings.Builder
	for id := range n {
		b.WriteString((&opened{}).tellAll([]api.Event{{Kind: api.EvPublished, Id: int64(id) + 1, Handler: -1}, {Kind: api.EvNobody, Id: int64(id) + 1, Handler: -1}}))
	}
	return b.String()
}

// P33.1, "an event": every kind, also those that few steps of a desk lead to, and such numbers as few come to.
func TestEventLines(t *testing.T) {
	p, f := check.Load([]byte("handler one = count; handler t_2 = echo;"))
	if f.Err != api.OK {
		t.Fatal(f)
	}
	o := &opened{isOpen: true, plan: p}
	five := api.Result{Has: true, Body: api.Datum{Kind: api.KInt, Int: 5}}
	for _, c := range []struct {
		e    api.Event
		want string
	}{
		{api.Event{Kind: api.EvPublished, At: 9, Id: 3, Handler: -1}, "published 3"},
		{api.Event{Kind: api.EvNobody, At: 9, Id: 3, Handler: -1}, "nobody 3"},
		{api.Event{Kind: api.EvQueued, At: 9, Id: 3, Handler: 0}, "queued 3 one"},
		{api.Event{Kind: api.EvRefused, At: 9, Id: 3, Handler: 1, Result: api.Result{Err: api.ErrFull}}, "refused 3 t_2 error 190"},
		{api.Event{Kind: api.EvRefused, At: 9, Handler: -1, Result: api.Result{Err: api.ErrFull}}, "refused 0 - error 190"},
		{api.Event{Kind: api.EvDropped, At: 9, Id: 3, Handler: 1}, "dropped 3 t_2"},
		{api.Event{Kind: api.EvLate, At: 9, Id: 3, Handler: 1}, "late 3 t_2"},
		{api.Event{Kind: api.EvDone, At: 9, Id: 3, Handler: 1, Result: five}, "done 3 t_2 ok 5"},
		{api.Event{Kind: api.EvHops, At: 9, Id: 3, Handler: 0}, "hops 3 one"},
		{api.Event{Kind: api.EvAnswer, At: 9, Id: 3, Handler: -1, Corr: 7, Result: five}, "answer 3 7 ok 5"},
		{api.Event{Kind: api.EvAnswer, At: 9, Id: 3, Handler: -1, Corr: 7, Result: api.Result{Err: api.ErrLate}}, "answer 3 7 error 170"},
		{api.Event{Kind: api.EvExpired, At: 9, Handler: -1, Corr: 7}, "expired 7"},
		{api.Event{Kind: api.EvCalled, At: 9, Handler: 0, Result: five}, "called one ok 5"},
		{api.Event{Kind: api.EvClosed, At: 9, Handler: 1}, "closed t_2 ok"},
		{api.Event{Kind: api.EvClosed, At: 9, Handler: 1, Result: api.Result{Err: api.ErrHandler, Code: 4}}, "closed t_2 error 100 code 4"},
		{api.Event{Kind: api.EvPublished, Id: 1 << 60, Handler: -1}, "published 1152921504606846976"},
	} {
		m := &model{plan: p}
		if got := o.tell(c.e); got != c.want || m.event(c.e) != c.want {
			t.Errorf("%q, %q, not %q", got, m.event(c.e), c.want)
		}
		if got := o.tellAll([]api.Event{c.e, c.e}); got != c.want+"\n"+c.want+"\n" {
			t.Errorf("%q", got)
		}
	}
	if got := o.tellAll(nil); got != "" {
		t.Errorf("%q of no events", got)
	}
}

// P33.1, "a result".
func TestResults(t *testing.T) {
	for _, c := range []struct {
		r    api.Result
		want string
	}{
		{api.Result{}, "ok"},
		{api.Result{Has: true}, "ok nil"},
		{api.Result{Has: true, Body: value(`(1, [@"a\x0ab"])`)}, `ok (1, [@"a\x0ab"])`},
		{api.Result{Err: api.ErrHandler}, "error 100 code 0"},
		{api.Result{Err: api.ErrHandler, Code: math.MinInt64}, "error 100 code -9223372036854775808"},
		{api.Result{Err: api.ErrTyped}, "error 101"},
		{api.Result{Err: api.ErrPanic, Panic: api.Panic{Kind: api.PanOwn, Num: -4}}, "panic 1 -4"},
		{api.Result{Err: api.ErrPanic, Panic: api.Panic{Kind: api.PanDivide}}, "panic 6 0"},
		{api.Result{Err: api.ErrPanic, Panic: api.Panic{Kind: api.PanError, Num: math.MaxInt64}}, "panic 7 9223372036854775807"},
		{api.Result{Err: api.ErrShown}, "error 201"},
		{api.Result{Err: api.ErrState}, "error 202"},
		{api.Result{Err: api.ErrRefuse}, "error 171"},
	} {
		if got := outcome(c.r); got != c.want || chapterResult(c.r) != c.want {
			t.Errorf("%v: %q", c.r, got)
		}
	}
}

// What handlers answer each other goes on round until it has come round too often; the desk tells each step of it.
func TestHops(t *testing.T) {
	p := newPair()
	p.lines(t, "add handler a = echo; route \"x\" -> a; route \"r\" -> a;", "open", "ask x r 1 5", "tick 2")
	got := p.line(t, "work 100")
	if !strings.HasPrefix(got, "done 1 a ok 5\npublished 2\nqueued 2 a\ndone 2 a ok 5\npublished 3\nqueued 3 a\n") || !strings.HasSuffix(got, "done 9 a ok 5\nhops 9 a\n") {
		t.Errorf("%q", got)
	}
}
