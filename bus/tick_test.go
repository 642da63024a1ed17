package bus

import (
	"testing"

	"conduit/api"
)

// P25.2, StTick: so many ticks pass, up to the last one; none at all is a tick's step, too.
func TestTime(t *testing.T) {
	p := plan(t, "handler a = echo;")
	for _, c := range []struct{ now, ticks, then int64 }{
		{0, 0, 0}, {0, 1, 1}, {5, 7, 12}, {5, lastTick - 5, lastTick}, {5, lastTick - 4, lastTick}, {5, lastTick, lastTick}, {lastTick, 0, lastTick}, {lastTick, 1, lastTick}, {lastTick, lastTick, lastTick},
	} {
		st := New(p)
		st.Now = c.now
		if next, l := asSaid(t, p, st, ticking(c.ticks)); next.Now != c.then || len(l) != 0 {
			t.Error(c, next.Now, l)
		}
	}
}

// P25.2: requests expire behind their last tick, in their order, told at the tick that it is then.
func TestExpired(t *testing.T) {
	st := play(t, "",
		"ask x reply=r for=5 nil => published 1, nobody 1",
		"ask x reply=r for=3 nil => published 2, nobody 2",
		"ask x reply=r nil => published 3, nobody 3",
		"ask x reply=r for=4 nil => published 4, nobody 4",
		"tick 3 => -",
		"tick 2 => expired to 2, expired to 4",
		"tick 0 => -",
		"tick 1 => expired to 1",
		"tick 1099511627776 => -",
	)
	if len(st.Asks.Wait) != 1 || st.Asks.Wait[0].Corr != 3 || st.Asks.Next != 4 {
		t.Error(st.Asks)
	}
}

// P25.2: behind the requests time passes for the handlers, rising, closed ones left out; what goes on then is told with its answers.
func TestTimeForHandlers(t *testing.T) {
	const config = `handler a = echo with buffer 9 3; handler b = count with buffer 9 2; handler c = echo with buffer 9 2; route "x" -> c; route "x" -> b; route "y" -> a;`
	play(t, config,
		"ask x reply=y for=1 5 => published 1, queued 1 c, queued 1 b",
		"work 9 => -",
		"tick 1 => -",
		"publish y reply=z 6 => published 2, queued 2 a",
		"work 9 => -",
		"tick 2 => expired to 1, done 1 b 1, published 3, queued 3 a, done 1 c 5, published 4, queued 4 a",
		"tick 1 => done 2 a 6, published 5, nobody 5",
	)
	p := plan(t, config)
	st := must(t, p, New(p), publishing("x", 5), working(9))
	st.Posts[1].Closed = true
	playFrom(t, p, st, "tick 9 => done 1 c 5")
}

// P25.2, StCall: what comes of messages on the way is told ahead of the answer.
func TestCall(t *testing.T) {
	play(t, `handler a = count caps ping, flush with buffer 5 0; handler b = store caps save, flush with open mask caps save; route "x" -> a; route "x" -> b;`,
		"publish x reply=x 1 => published 1, queued 1 a, queued 1 b",
		"publish x 2 => published 2, queued 2 a, queued 2 b",
		"work 2 => done 1 b 0, published 3, queued 3 a, queued 3 b",
		"call a flush nil => done 1 a 1, published 4, queued 4 a, queued 4 b, called a 1",
		"call a ping nil => called a true",
		"call a batch [1, 2] => done a 2, done a 3, called a 2",
		"call a batch 5 => called a panic assert 1",
		"call a close nil => called a shown",
		"call b flush nil => called b shown",
		"deep call b flush nil => called b 1",
		"call b save nil => called b ([0, 0, 0, false], (nil, []))",
		`deep call b open nil => called b "store"`,
		"call 2 ping nil => called c nobody",
		"call 64 ping nil => called 64 nobody",
		"call -1 ping nil => called nobody",
	)
}

// P25.2: it is none of the plan's numbers that nobody answers for, and a handler's own capabilities that it shows; a number that is no capability is shown by none.
func TestCallNumbers(t *testing.T) {
	p := plan(t, "handler a = echo caps ping;")
	for _, h := range []int{-1 << 63, -2, 1, 2, 1<<63 - 1} {
		st, l := asSaid(t, p, New(p), api.Step{Kind: api.StCall, Handler: h, Cap: api.CapPing})
		if !same(st, New(p)) || len(l) != 1 || l[0].Handler != h || l[0].Result.Err != api.ErrNobody {
			t.Error(h, l)
		}
	}
	for _, which := range []int{-1, api.NumCaps, 1 << 40, -1 << 63} {
		if _, l := asSaid(t, p, New(p), api.Step{Kind: api.StCall, Cap: which, Deep: true}); len(l) != 1 || l[0].Result.Err != api.ErrShown {
			t.Error(which, l)
		}
	}
}

// P25.2: a call of close closes the core, not the handler; and a closed handler may be called still.
func TestCallClose(t *testing.T) {
	play(t, `handler a = echo caps close, flush; route "x" -> a;`,
		"call a close nil => called a none",
		"publish x 1 => published 1, queued 1 a",
		"work 1 => done 1 a closed",
		"call a flush nil => called a closed",
		"close => closed a closed",
		"call a close nil => called a closed",
	)
	play(t, "handler a = count caps save;", "close => closed a none", "call a save nil => called a ([0, 0, 0, false], (nil, []))")
}

// P25.2: a message of a batch is none that is held, unless one with its number is.
func TestCallBatch(t *testing.T) {
	p := plan(t, "handler a = echo caps flush, batch with buffer 3 0;")
	st := New(p)
	st.Posts[0].Held = []api.Msg{{Id: 0, Topic: "x", Reply: "r"}, {Id: 3, Topic: "x", Reply: "r"}}
	st = playFrom(t, p, st, "call a batch [1, 2] => done a 1, published 1, nobody 1, done a 2, called a 2")
	if l := st.Posts[0].Held; len(l) != 1 || l[0].Id != 3 {
		t.Error(l)
	}
}
