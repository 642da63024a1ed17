package bus

import (
	"slices"
	"testing"

	"conduit/api"
)

// P25.2, StWork: handlers take turns, round, those that have nothing left out; each turn is one message.
func TestTurns(t *testing.T) {
	st := play(t, `handler a = echo; handler b = echo; handler c = echo; route "a" -> a; route "#" -> c; route "b" -> b;`,
		"publish a 1 => published 1, queued 1 a, queued 1 c",
		"publish a 2 => published 2, queued 2 a, queued 2 c",
		"publish a 3 => published 3, queued 3 a, queued 3 c",
		"work 0 => -",
		"work 1 => done 1 a 1",
		"publish b 4 => published 4, queued 4 c, queued 4 b",
		"work 3 => done 4 b 4, done 1 c 1, done 2 a 2",
		"work 9 => done 2 c 2, done 3 a 3, done 3 c 3, done 4 c 4",
		"work 9 => -",
	)
	if st.Turn != 0 {
		t.Error(st.Turn)
	}
}

// P25.2: the turn is the one behind the last one that had a message, round; where none has, it stays.
func TestTurnStays(t *testing.T) {
	const config = `handler a = echo; handler b = echo; handler c = echo; route "a" -> a; route "b" -> b; route "c" -> c;`
	for name, turn := range map[string]int{"a": 1, "b": 2, "c": 0} {
		if st := play(t, config, "publish "+name+" 1 => published 1, queued 1 "+name, "work 1 => done 1 "+name+" 1", "work 1 => -"); st.Turn != turn {
			t.Error(name, st.Turn)
		}
	}
	p := plan(t, config)
	for turn := range 3 {
		st := New(p)
		st.Turn = turn
		if st = playFrom(t, p, st, "work 5 => -", "tick 1 => -", "close => closed a none, closed b none, closed c none"); st.Turn != turn {
			t.Error(turn, st.Turn)
		}
	}
	play(t, "", "work 5 => -", "tick 1 => -", "close => -")
}

// P25.2: of one inbox the greatest priority comes first, of several the one that came first.
func TestPriorities(t *testing.T) {
	play(t, `handler a = echo; route "x" -> a;`,
		"publish x prio=1 1 => published 1, queued 1 a",
		"publish x prio=2 2 => published 2, queued 2 a",
		"publish x prio=2 3 => published 3, queued 3 a",
		"work 3 => done 2 a 2, done 3 a 3, done 1 a 1",
	)
}

// P25.2: those that are late go ahead of any message, in their order, in the handler's own turn; if none is left, it has had its turn.
func TestLate(t *testing.T) {
	st := play(t, `handler a = echo; handler b = echo; route "x" -> a; route "x" -> b; route "y" -> a;`,
		"publish x until=1 1 => published 1, queued 1 a, queued 1 b",
		"publish x until=2 2 => published 2, queued 2 a, queued 2 b",
		"publish y prio=-1 3 => published 3, queued 3 a",
		"publish x prio=4 until=1 4 => published 4, queued 4 a, queued 4 b",
		"tick 2 => -",
		"work 1 => late 1 a, late 4 a, done 2 a 2",
		"tick 1 => -",
		"work 1 => late 1 b, late 2 b, late 4 b",
		"work 2 => done 3 a 3",
	)
	if st.Posts[0].Inbox.Dropped != 2 || st.Posts[1].Inbox.Dropped != 3 {
		t.Error(st)
	}
}

// P25.2: a closed handler has no turn, whatever waits there.
func TestClosedHasNoTurn(t *testing.T) {
	p := plan(t, `handler a = echo; handler b = echo; route "x" -> a; route "x" -> b;`)
	st := must(t, p, New(p), publishing("x", 1))
	st.Posts[0].Closed = true
	st = playFrom(t, p, st, "work 5 => done 1 b 1", "tick 5 => -")
	if len(st.Posts[0].Inbox.Msgs) != 1 || st.Turn != 0 {
		t.Error(st)
	}
}

// P25.2: a step handles MaxWork messages at most.
func TestMostWork(t *testing.T) {
	p := plan(t, `handler a = echo inbox 1024; handler b = of a inbox 1024; handler c = of a inbox 1024; handler d = of a inbox 1024; handler e = of a inbox 1024; route "#" -> a; route "#" -> b; route "#" -> c; route "#" -> d; route "#" -> e;`)
	st, _ := Run(p, slices.Repeat([]api.Step{publishing("x", 1)}, 820))
	for _, n := range []int64{0, 1, 4095, 4097, lastTick} {
		if _, l := Do(p, st, working(n)); len(l) != int(min(n, 4096)) {
			t.Errorf("work %d: %d events", n, len(l))
		}
	}
}

// P25.2: an answer that is routed to who gave it is work of the same step.
func TestWorkOnAnswers(t *testing.T) {
	play(t, `handler a = echo; route "x" -> a;`, "publish x reply=x 1 => published 1, queued 1 a", "work 2 => done 1 a 1, published 2, queued 2 a, done 2 a 1, published 3, queued 3 a")
}

// P25.2: what a handler was given and has no result yet is held, in the order in which it was taken.
func TestHeld(t *testing.T) {
	st := play(t, `handler a = echo with buffer 3 0; route "x" -> a;`,
		"publish x reply=r prio=1 1 => published 1, queued 1 a",
		"publish x prio=2 [2] => published 2, queued 2 a",
		"work 2 => -",
	)
	if l := st.Posts[0].Held; len(l) != 2 || l[0].Id != 2 || l[1].Id != 1 || l[1].Reply != "r" {
		t.Error(l)
	}
	st = play(t, `handler a = echo with buffer 2 0; route "x" -> a;`,
		"publish x 1 => published 1, queued 1 a", "work 1 => -",
		"publish x 2 => published 2, queued 2 a", "work 1 => done 1 a 1, done 2 a 2",
	)
	if l := st.Posts[0].Held; len(l) != 0 {
		t.Error(l)
	}
}

// P25.2: of those held with one number the first one has the result.
func TestHeldTwice(t *testing.T) {
	p := plan(t, `handler a = echo; route "x" -> a;`)
	st := New(p)
	st.Posts[0].Held = []api.Msg{{Id: 4, Topic: "x"}, {Id: 1, Topic: "x", Reply: "s"}, {Id: 1, Topic: "x", Reply: "t"}}
	st = playFrom(t, p, st, "publish x reply=u 5 => published 1, queued 1 a", "work 1 => done 1 a 5, published 2, nobody 2")
	if l := st.Posts[0].Held; len(l) != 3 || l[0].Id != 4 || l[1].Reply != "t" || l[2].Reply != "u" {
		t.Error(l)
	}
}

// P25.2: answers come just of results that are OK and have one, of messages with a reply, each behind its own result.
func TestAnswers(t *testing.T) {
	play(t, `handler a = echo with buffer 3 0; route "x" -> a;`,
		"publish x reply=r 1 => published 1, queued 1 a",
		"publish x 2 => published 2, queued 2 a",
		"publish x reply=s 3 => published 3, queued 3 a",
		"work 3 => done 1 a 1, published 4, nobody 4, done 2 a 2, done 3 a 3, published 5, nobody 5",
	)
	for core, result := range map[string]string{"mute": "none", "fail 3": "code 3", "panic 2": "panic own 2", "none": "typed", "unbox": "panic assert 3"} {
		play(t, "handler a = "+core+`; route "x" -> a;`, "publish x reply=r 1 => published 1, queued 1 a", "work 1 => done 1 a "+result)
	}
}

// P25.2: an answer has the message's Reply, Corr and Prio, is of use for ever, has gone round once more, and is published at the tick that it is.
func TestAnswerMessage(t *testing.T) {
	st := play(t, `handler a = echo; handler b = echo; route "x" -> a; route "r" -> b;`,
		"tick 3 => -",
		"publish x until=9 reply=r corr=7 prio=5 [1] => published 1, queued 1 a",
		"tick 2 => -",
		"work 1 => done 1 a [1], published 2, queued 2 b",
	)
	want := api.Msg{Id: 2, Topic: "r", Body: list(number(1)), At: 5, Reply: "r", Corr: 7, Prio: 5, Hops: 1}
	if l := st.Posts[1].Inbox.Msgs; len(l) != 1 || !sameMsg(l[0], want) {
		t.Error(l)
	}
}

// P25.9: what comes round is told behind MaxHops rounds, and goes on no more.
func TestRounds(t *testing.T) {
	play(t, `handler a = echo; route "r" -> a;`,
		"publish r reply=r 1 => published 1, queued 1 a",
		"work 7 => done 1 a 1, published 2, queued 2 a, done 2 a 1, published 3, queued 3 a, done 3 a 1, published 4, queued 4 a, done 4 a 1, published 5, queued 5 a, done 5 a 1, published 6, queued 6 a, done 6 a 1, published 7, queued 7 a, done 7 a 1, published 8, queued 8 a",
		"work 9 => done 8 a 1, published 9, queued 9 a, done 9 a 1, hops 9 a",
		"work 9 => -",
	)
	p := plan(t, `handler a = echo; route "r" -> a;`)
	st := New(p)
	for hops := range api.MaxHops + 1 {
		st.Posts[0].Inbox.Msgs = append(st.Posts[0].Inbox.Msgs, api.Msg{Id: int64(hops), Topic: "r", Reply: "s", Hops: hops})
	}
	playFrom(t, p, st, "work 7 => done a nil, published 1, nobody 1, done 1 a nil, published 2, nobody 2, done 2 a nil, published 3, nobody 3, done 3 a nil, published 4, nobody 4, done 4 a nil, published 5, nobody 5, done 5 a nil, published 6, nobody 6, done 6 a nil, published 7, nobody 7",
		"work 7 => done 7 a nil, published 8, nobody 8, done 8 a nil, hops 8 a")
}

// P25.9: two that answer one another come to an end, too.
func TestRoundsOfTwo(t *testing.T) {
	p := plan(t, `handler a = echo; handler b = echo; route "r" -> a; route "r" -> b;`)
	s := publishing("r", 1)
	s.Msg.Reply = "r"
	st := must(t, p, New(p), s)
	hops := 0
	for range 40 {
		next, l := asSaid(t, p, st, working(lastTick))
		for _, e := range l {
			if e.Kind == api.EvHops {
				hops++
			}
		}
		st = next
	}
	if hops == 0 || len(st.Posts[0].Inbox.Msgs)+len(st.Posts[1].Inbox.Msgs) > 0 {
		t.Error(hops, st)
	}
}
