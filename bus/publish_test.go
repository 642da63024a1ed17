package bus

import (
	"testing"

	"conduit/api"
)

// P25.2, StPublish: a message goes to each handler of its routes once, in their order, or to nobody.
func TestPublish(t *testing.T) {
	st := play(t, `handler a = echo; handler b = echo; handler c = echo; route "x/#" -> c; route "x/1" when int -> a; route "x/+" -> c; route "#" else -> b;`,
		"publish x/1 5 => published 1, queued 1 c, queued 1 a",
		`publish x/1 "t" => published 2, queued 2 c`,
		"publish y 5 => published 3, queued 3 b",
		"publish $sys 5 => published 4, nobody 4",
	)
	if st.Next != 4 || st.Now != 0 || st.Turn != 0 {
		t.Error(st)
	}
	play(t, "", "publish x 5 => published 1, nobody 1")
}

// P25.2: what waits is the message with its number and the tick that it is.
func TestPublishedMessage(t *testing.T) {
	st := play(t, `handler a = echo; route "x" -> a;`, "tick 7 => -", "publish x until=9 reply=r corr=3 prio=-4 [1] => published 1, queued 1 a")
	want := api.Msg{Id: 1, Topic: "x", Body: list(number(1)), At: 7, Until: 9, Reply: "r", Corr: 3, Prio: -4}
	if l := st.Posts[0].Inbox.Msgs; len(l) != 1 || !sameMsg(l[0], want) {
		t.Error(l)
	}
}

// P25.2: a full inbox refuses, lets the new one go, or the first one of the least priority, be that the new one or not.
func TestFullInbox(t *testing.T) {
	st := play(t, `handler a = echo inbox 1 drop none; route "x" -> a;`,
		"publish x 1 => published 1, queued 1 a",
		"publish x prio=9 2 => published 2, refused 2 a full",
	)
	if q := st.Posts[0].Inbox; q.Refused != 1 || q.Dropped != 0 {
		t.Error(q)
	}
	st = play(t, `handler a = echo inbox 1 drop new; route "x" -> a;`,
		"publish x 1 => published 1, queued 1 a",
		"publish x prio=9 2 => published 2, dropped 2 a",
	)
	if q := st.Posts[0].Inbox; q.Refused != 0 || q.Dropped != 1 {
		t.Error(q)
	}
	st = play(t, `handler a = echo inbox 2 drop old; route "x" -> a;`,
		"publish x prio=1 1 => published 1, queued 1 a",
		"publish x prio=5 2 => published 2, queued 2 a",
		"publish x prio=3 3 => published 3, dropped 1 a, queued 3 a",
		"publish x prio=0 4 => published 4, dropped 4 a",
		"publish x prio=3 5 => published 5, dropped 3 a, queued 5 a",
		"work 9 => done 2 a 2, done 5 a 5",
	)
	if q := st.Posts[0].Inbox; q.Refused != 0 || q.Dropped != 3 {
		t.Error(q)
	}
}

// P25.2: which one goes is told by what it is, not by its number: a fit state may have messages with numbers that are still to come.
func TestFullInboxOfSameNumbers(t *testing.T) {
	for _, c := range []struct {
		drop, prio string
		want       string
	}{
		{"old", "0", "dropped 1 a, queued 1 a"}, {"old", "1", "dropped 1 a, queued 1 a"}, {"old", "-1", "dropped 1 a"},
		{"new", "1", "dropped 1 a"}, {"none", "1", "refused 1 a full"},
	} {
		p := plan(t, `handler a = echo inbox 1 drop `+c.drop+`; route "x" -> a;`)
		st := New(p)
		st.Posts[0].Inbox.Msgs = []api.Msg{{Id: 1, Topic: "y"}}
		playFrom(t, p, st, "publish x prio="+c.prio+" 5 => published 1, "+c.want)
	}
}

// P25.2: a closed handler refuses; the others take what is published.
func TestPublishToClosed(t *testing.T) {
	p := plan(t, `handler a = echo; handler b = echo; route "x" -> a; route "x" -> b;`)
	st := New(p)
	st.Posts[0].Closed = true
	st = playFrom(t, p, st, "publish x 1 => published 1, refused 1 a closed, queued 1 b")
	if q := st.Posts[0].Inbox; q.Refused != 0 || len(q.Msgs) != 0 {
		t.Error(q)
	}
}

// P25.2: whoever publishes may answer a request by its number and topic; what is no answer goes by the routes.
func TestPublishAnswers(t *testing.T) {
	play(t, `handler a = echo; route "#" -> a;`,
		"ask x reply=r 5 => published 1, queued 1 a",
		"ask x reply=r/2 6 => published 2, queued 2 a",
		"publish r corr=3 7 => published 3, queued 3 a",
		"publish r corr=2 7 => published 4, queued 4 a",
		"publish r/2 7 => published 5, queued 5 a",
		"publish r/2 corr=2 [7] => published 6, answer 6 to 2 [7]",
		"publish r/2 corr=2 [7] => published 7, queued 7 a",
		"publish r corr=1 nil => published 8, answer 8 to 1 nil",
	)
}

// P25.2: an answer whose time is over, to a request that no tick has taken out, is late; then the request waits no more.
func TestAnswerLate(t *testing.T) {
	p := plan(t, `handler a = echo; route "#" -> a;`)
	st := New(p)
	st.Now, st.Asks = 6, api.Asks{Next: 2, Wait: []api.Ask{{Corr: 1, Until: 5, Topic: "r"}, {Corr: 2, Until: 6, Topic: "r"}}}
	playFrom(t, p, st,
		"publish r corr=1 [5] => published 1, answer 1 to 1 late",
		"publish r corr=1 [5] => published 2, queued 2 a",
		"publish r corr=2 [5] => published 3, answer 3 to 2 [5]",
	)
}

// P25.2, StAsk: the request waits on the reply's topic, with the number that the message bears.
func TestAsk(t *testing.T) {
	st := play(t, `handler a = echo; route "x" -> a;`,
		"tick 3 => -",
		"ask x reply=r for=4 corr=9 5 => published 1, queued 1 a",
		"ask y reply=s 5 => published 2, nobody 2",
		"ask y reply=s for=1099511627776 5 => published 3, nobody 3",
		"ask y reply=s for=1099511627773 5 => published 4, nobody 4",
	)
	want := []api.Ask{{Corr: 1, Until: 7, Topic: "r"}, {Corr: 2, Until: 0, Topic: "s"}, {Corr: 3, Until: lastTick, Topic: "s"}, {Corr: 4, Until: lastTick, Topic: "s"}}
	for i, a := range st.Asks.Wait {
		if a != want[i] {
			t.Error(i, a)
		}
	}
	if m := st.Posts[0].Inbox.Msgs[0]; len(st.Asks.Wait) != 4 || m.Corr != 1 || m.Reply != "r" || m.Until != 0 {
		t.Error(st.Asks, m)
	}
}

// P25.2: at tick 0 a request that is asked for a tick waits until tick 1, one that is asked for none for ever.
func TestAskAtFirst(t *testing.T) {
	play(t, "",
		"ask x reply=r for=1 5 => published 1, nobody 1",
		"ask x reply=r 5 => published 2, nobody 2",
		"tick 1 => -",
		"tick 1 => expired to 1",
		"tick 1099511627776 => -",
	)
}

// P25.2: a request on the topic of its own answer is one.
func TestAskItself(t *testing.T) {
	play(t, `handler a = echo; route "r" -> a;`, "ask r reply=r 5 => published 1, answer 1 to 1 5", "ask r reply=r 6 => published 2, answer 2 to 2 6")
}

// P25.2: where too many requests wait, or their numbers have come to an end, none is asked, and nothing is published.
func TestAskFull(t *testing.T) {
	p := plan(t, `handler a = echo inbox 1024; route "x" -> a;`)
	st := New(p)
	for range api.MaxAsks {
		st, _ = Do(p, st, asking("x", "r", 1, 0))
	}
	st = playFrom(t, p, st, "ask x reply=r 5 => refused full")
	if st.Next != api.MaxAsks || st.Asks.Next != api.MaxAsks || len(st.Asks.Wait) != api.MaxAsks {
		t.Error(st.Next, st.Asks.Next)
	}
	playFrom(t, p, st, "publish r corr=1024 7 => published 1025, answer 1025 to 1024 7", "ask x reply=r 5 => published 1026, dropped 1026 a")
	last := New(p)
	last.Asks.Next = 1 << 62
	playFrom(t, p, last, "ask x reply=r 5 => refused full", "publish x 5 => published 1, queued 1 a")
}
