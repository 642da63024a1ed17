package bus

import (
	"slices"
	"strings"
	"testing"

	"conduit/api"
	"conduit/built"
	"conduit/datum"
)

// P25.1 New: all is at its beginning, a limit full at tick 0.
func TestNew(t *testing.T) {
	p := plan(t, `handler a = echo with limit 3 4 with buffer 2 0; handler b = count; route "x" -> a;`)
	st := New(p)
	if st.Now != 0 || st.Next != 0 || st.Turn != 0 || st.Asks.Next != 0 || len(st.Asks.Wait) != 0 || len(st.Posts) != 2 {
		t.Error(st)
	}
	for h, post := range st.Posts {
		if want := built.New(p.Handlers[h].Chain, 0); !samePost(post, api.Post{Built: want}) {
			t.Error(h, post)
		}
	}
	if st.Posts[0].Built.Wraps[0].Limit.Level != 12 {
		t.Error(st.Posts[0])
	}
	if st := New(plan(t, "")); !same(st, api.Bus{}) {
		t.Error(st)
	}
}

// P25.1 Fit: a plan's first state is fit, and every one that steps lead to.
func TestFitAtFirst(t *testing.T) {
	r := newRandom(3)
	for range 500 {
		p := randomPlan(t, r)
		if !Fit(p, New(p)) || !Fit(p, randomState(t, r, p)) {
			t.Fatal(p)
		}
	}
}

// change is something that is done to a state, and whether it is fit then.
type change struct {
	fit bool
	do  func(st *api.Bus)
}

func checkChanges(t *testing.T, p api.Plan, l []change) {
	t.Helper()
	for i, c := range l {
		st := New(p)
		if c.do(&st); Fit(p, st) != c.fit {
			t.Errorf("%d: %v", i, st)
		}
	}
}

// P25.1 Fit: numbers have their bounds.
func TestFitNumbers(t *testing.T) {
	p := plan(t, "handler a = echo inbox 2; handler b = echo;")
	var l []change
	for _, c := range []struct {
		n    int64
		fits [4]bool // Now, Next, Refused and Dropped, Asks.Next
	}{
		{-1, [4]bool{}}, {-1 << 63, [4]bool{}}, {0, [4]bool{true, true, true, true}}, {lastTick, [4]bool{true, true, true, true}}, {lastTick + 1, [4]bool{false, true, true, true}},
		{1 << 60, [4]bool{false, true, true, true}}, {1<<60 + 1, [4]bool{false, false, false, true}}, {1 << 62, [4]bool{false, false, false, true}}, {1<<62 + 1, [4]bool{}}, {1<<63 - 1, [4]bool{}},
	} {
		l = append(l,
			change{c.fits[0], func(st *api.Bus) { st.Now = c.n }},
			change{c.fits[1], func(st *api.Bus) { st.Next = c.n }},
			change{c.fits[2], func(st *api.Bus) { st.Posts[0].Inbox.Refused = c.n }},
			change{c.fits[2], func(st *api.Bus) { st.Posts[1].Inbox.Dropped = c.n }},
			change{c.fits[3], func(st *api.Bus) { st.Asks.Next = c.n }},
		)
	}
	checkChanges(t, p, l)
}

// P25.1 Fit: Turn is that of a handler, 0 where there are none; there is a post for each.
func TestFitTurn(t *testing.T) {
	none, two := plan(t, ""), plan(t, "handler a = echo; handler b = echo;")
	for turn := -2; turn < 4; turn++ {
		turned := func(st *api.Bus) { st.Turn = turn }
		checkChanges(t, none, []change{{turn == 0, turned}})
		checkChanges(t, two, []change{{turn == 0 || turn == 1, turned}})
	}
	checkChanges(t, none, []change{{false, func(st *api.Bus) { st.Posts = make([]api.Post, 1) }}})
	checkChanges(t, two, []change{
		{false, func(st *api.Bus) { st.Posts = st.Posts[:1] }},
		{false, func(st *api.Bus) { st.Posts = nil }},
		{false, func(st *api.Bus) { st.Posts = append(st.Posts, api.Post{}) }},
		{true, func(st *api.Bus) { st.Posts[1].Closed = true }},
	})
}

// P25.1 Fit: requests rise by their numbers, from 1 to Next, and wait until a tick.
func TestFitAsks(t *testing.T) {
	asks := func(next int64, l ...api.Ask) func(st *api.Bus) {
		return func(st *api.Bus) { st.Asks = api.Asks{Next: next, Wait: l} }
	}
	of := func(corrs ...int64) (l []api.Ask) {
		for _, n := range corrs {
			l = append(l, api.Ask{Corr: n, Topic: "r"})
		}
		return l
	}
	var many []int64
	for n := range int64(1025) {
		many = append(many, n+1)
	}
	checkChanges(t, plan(t, ""), []change{
		{true, asks(5, of(1, 2, 5)...)}, {true, asks(5, of(5)...)}, {false, asks(5, of(6)...)}, {false, asks(5, of(0)...)}, {false, asks(5, of(-1, 1)...)},
		{false, asks(5, of(1, 1)...)}, {false, asks(5, of(2, 1)...)}, {false, asks(5, of(1, 3, 2)...)}, {false, asks(0, of(1)...)},
		{true, asks(5, api.Ask{Corr: 1, Until: lastTick})}, {false, asks(5, api.Ask{Corr: 1, Until: lastTick + 1})}, {false, asks(5, api.Ask{Corr: 1, Until: -1})},
		{true, asks(1<<62, of(1<<62)...)}, {true, asks(2000, of(many[:1024]...)...)}, {false, asks(2000, of(many...)...)},
		{true, asks(1, api.Ask{Corr: 1, Topic: "#"})},
	})
}

// unfitMsgs are such as are fit but for one thing.
func unfitMsgs() []api.Msg {
	good := api.Msg{Id: 1, Topic: "x", At: 3, Until: 4, Reply: "r", Corr: 5, Prio: 6, Hops: 7}
	var l []api.Msg
	for _, spoil := range []func(m *api.Msg){
		func(m *api.Msg) { m.Topic = "" }, func(m *api.Msg) { m.Topic = "x/#" }, func(m *api.Msg) { m.Topic = "\xff" }, func(m *api.Msg) { m.Reply = "+" }, func(m *api.Msg) { m.Reply = "\x00" },
		func(m *api.Msg) { m.At = -1 }, func(m *api.Msg) { m.At = lastTick + 1 }, func(m *api.Msg) { m.Until = -1 }, func(m *api.Msg) { m.Until = lastTick + 1 },
		func(m *api.Msg) { m.Hops = -1 }, func(m *api.Msg) { m.Hops = 9 }, func(m *api.Msg) { m.Body.Kind = 14 }, func(m *api.Msg) { m.Body = api.Datum{Kind: api.KInt, Text: "t"} },
		func(m *api.Msg) { m.Topic = strings.Repeat("x", 65536) },
	} {
		m := good
		spoil(&m)
		l = append(l, m)
	}
	return l
}

// P25.1 Fit: messages that wait and that are held are fit ones, whatever their other fields; of those that wait there is room for so many.
func TestFitMessages(t *testing.T) {
	p := plan(t, "handler a = echo; handler b = echo inbox 2;")
	inbox := func(l ...api.Msg) func(st *api.Bus) { return func(st *api.Bus) { st.Posts[1].Inbox.Msgs = l } }
	held := func(l ...api.Msg) func(st *api.Bus) { return func(st *api.Bus) { st.Posts[1].Held = l } }
	good := api.Msg{Topic: "x", Until: lastTick, At: lastTick, Hops: 8}
	odd := api.Msg{Id: -1 << 63, Topic: "$s", Corr: -7, Prio: -1 << 63, Reply: "r/", Body: list(number(3))}
	l := []change{
		{true, inbox(good, odd)}, {true, held(good, odd, good, odd)}, {false, inbox(good, odd, good)}, {true, inbox(good, good)}, {true, held(slices.Repeat([]api.Msg{good}, 2000)...)},
	}
	for _, m := range unfitMsgs() {
		l = append(l, change{false, inbox(m)}, change{false, inbox(good, m)}, change{false, held(m)}, change{false, held(good, m, good)})
	}
	checkChanges(t, p, l)
}

// P25.1 Fit: what a handler has come to is fit with its own chain.
func TestFitBuilt(t *testing.T) {
	p := plan(t, "handler a = echo with buffer 2 0; handler b = store with dedup 2;")
	checkChanges(t, p, []change{
		{true, func(st *api.Bus) { st.Posts[0].Built.Wraps[0].Buffer.Msgs = []api.Msg{{Topic: "x"}} }},
		{false, func(st *api.Bus) { st.Posts[1].Built.Wraps[0].Buffer.Msgs = []api.Msg{{Topic: "x"}} }},
		{true, func(st *api.Bus) { st.Posts[1].Built.Wraps[0].Dedup.Ids = []int64{1, 2} }},
		{false, func(st *api.Bus) { st.Posts[1].Built.Wraps[0].Dedup.Ids = []int64{1, 2, 3} }},
		{false, func(st *api.Bus) { st.Posts[0], st.Posts[1] = api.Post{}, api.Post{} }},
		{false, func(st *api.Bus) { st.Posts[1].Built.Core.List = []api.Datum{number(1), number(1)} }},
		{false, func(st *api.Bus) { st.Posts[0].Built.Core.Count = -1 }},
	})
}

// P25.1 Step: kinds are api's; what a kind has must be fit, and what it has not plays no part.
func TestStepKinds(t *testing.T) {
	odd := api.Step{Msg: api.Msg{Id: 5, Topic: "#", Body: api.Datum{Kind: 99}, At: -1}, N: -1, Handler: -9, Cap: 99, Arg: api.Datum{Kind: -1}, Deep: true}
	for kind := -1; kind <= api.NumSteps; kind++ {
		s := odd
		s.Kind = kind
		if Step(s) != (kind == api.StClose) {
			t.Error(s)
		}
		s = api.Step{Kind: kind, Msg: api.Msg{Topic: "x", Reply: "r"}}
		if Step(s) != (kind >= 1 && kind <= 6) {
			t.Error(s)
		}
	}
	call := odd
	call.Kind, call.Arg = api.StCall, list(api.Datum{})
	work := odd
	work.Kind, work.N = api.StWork, 7
	tick := work
	tick.Kind = api.StTick
	publish := odd
	publish.Kind, publish.Msg = api.StPublish, api.Msg{Topic: "x"}
	for _, s := range []api.Step{call, work, tick, publish} {
		if !Step(s) {
			t.Error(s)
		}
	}
}

// P25.1 Step: N is a tick's number, where a kind has it.
func TestStepNumbers(t *testing.T) {
	for _, kind := range []int{api.StAsk, api.StWork, api.StTick} {
		for _, n := range []int64{-1 << 63, -1, 0, 1, 4097, lastTick, lastTick + 1, 1<<63 - 1} {
			s := api.Step{Kind: kind, N: n, Msg: api.Msg{Topic: "x", Reply: "r"}}
			if Step(s) != (n >= 0 && n <= lastTick) {
				t.Error(s)
			}
		}
	}
}

// P25.1 Step: a message that is to be published is fit and has no number, tick and rounds yet; one that is asked has a reply.
func TestStepMessages(t *testing.T) {
	for _, kind := range []int{api.StPublish, api.StAsk} {
		step := func(do func(m *api.Msg)) api.Step {
			s := api.Step{Kind: kind, Msg: api.Msg{Topic: "x", Reply: "r", Until: 4, Corr: 5, Prio: -6, Body: list(number(1))}}
			do(&s.Msg)
			return s
		}
		for i, do := range []func(m *api.Msg){
			func(*api.Msg) {}, func(m *api.Msg) { m.Until = lastTick }, func(m *api.Msg) { m.Until = 0 }, func(m *api.Msg) { m.Corr = 0 }, func(m *api.Msg) { m.Corr = 1<<63 - 1 },
			func(m *api.Msg) { m.Prio = -1 << 63 }, func(m *api.Msg) { m.Topic = "$s" }, func(m *api.Msg) { m.Body = api.Datum{} }, func(m *api.Msg) { m.Reply = "/" },
		} {
			if s := step(do); !Step(s) {
				t.Error(kind, i, s)
			}
		}
		for i, do := range []func(m *api.Msg){
			func(m *api.Msg) { m.Id = 1 }, func(m *api.Msg) { m.Id = -1 }, func(m *api.Msg) { m.At = 1 }, func(m *api.Msg) { m.At = -1 }, func(m *api.Msg) { m.Hops = 1 }, func(m *api.Msg) { m.Hops = -1 },
			func(m *api.Msg) { m.Corr = -1 }, func(m *api.Msg) { m.Corr = -1 << 63 }, func(m *api.Msg) { m.Until = -1 }, func(m *api.Msg) { m.Until = lastTick + 1 },
			func(m *api.Msg) { m.Topic = "" }, func(m *api.Msg) { m.Topic = "a+" }, func(m *api.Msg) { m.Topic = "\xff" }, func(m *api.Msg) { m.Reply = "#" },
			func(m *api.Msg) { m.Body.Kind = api.NumKinds }, func(m *api.Msg) { m.Body.Int = 1 }, func(m *api.Msg) { m.Body.List[0].Text = "t" },
		} {
			if s := step(do); Step(s) {
				t.Error(kind, i, s)
			}
		}
		if s := step(func(m *api.Msg) { m.Reply = "" }); Step(s) != (kind == api.StPublish) {
			t.Error(s)
		}
	}
}

// P25.1 Step: what a capability is called with is a valid value.
func TestStepArgs(t *testing.T) {
	deep, over := number(1), number(1)
	for range api.MaxDeep - 1 {
		deep = list(deep)
	}
	for range api.MaxDeep {
		over = list(over)
	}
	for _, d := range []api.Datum{{}, number(1), deep, over, {Kind: 99}, {Kind: api.KInt, Text: "t"}, list(api.Datum{Kind: -1}), {Kind: api.KBool, Int: 2}, {Kind: api.KPair, List: []api.Datum{{}}}} {
		if s := (api.Step{Kind: api.StCall, Handler: -5, Cap: 77, Arg: d}); Step(s) != datum.Valid(d) {
			t.Error(s)
		}
	}
}
