package shown

import "testing"

// P9.3, P9.4: of what is no capability nobody answers, and it is not reached.
func TestNoCapability(t *testing.T) {
	r := newRandom(2)
	for range 200 {
		ch := randomChain(t, r, 8)
		for i := range ch.Wraps {
			ch.Wraps[i].Open = i%2 == 0 || ch.Wraps[i].Open
		}
		for _, which := range noCaps() {
			if who, reach := Who(ch, which), Reach(ch, which); who != -1 || reach != -1 {
				t.Fatalf("%+v: %d: %d %d", ch, which, who, reach)
			}
		}
	}
}

// P9.3: the outermost one that gives it answers, if all from there on show it.
func TestWhoAnswers(t *testing.T) {
	for _, x := range []struct {
		src, word string
		who       int
	}{
		{"echo caps ping", "ping", 0},
		{"echo caps ping with breaker 1 1", "ping", 1},
		{"echo with breaker 1 1", "ping", 1},
		{"echo with breaker 1 1 with breaker 1 1 with through", "ping", 2},
		{"echo caps ping with mask caps ping", "ping", 0},
		{"echo caps ping with mask caps flush", "ping", -1},
		{"echo caps ping with breaker 1 1 with mask caps flush", "ping", -1},
		{"echo caps ping with hide with breaker 1 1", "ping", 2},
		{"echo with give caps ping with give caps ping, flush", "ping", 2},
		{"echo with give caps ping with give caps flush", "ping", 1},
		{"echo with give caps ping with hide with give caps flush", "ping", -1},
		{"echo caps ping, reset with dedup 5", "reset", 1},
		{"echo caps ping, reset with dedup 5", "ping", 0},
		{"echo caps flush, batch with buffer 5 0 with retry 1", "batch", -1},
		{"echo caps flush, batch with buffer 5 0 with retry 1", "flush", 1},
		{"echo caps flush, batch with retry 1 with buffer 5 0", "batch", 2},
		{"echo caps flush, batch with retry 1 with until 5", "batch", -1},
		{"echo caps until, ack with until 5", "until", 1},
		{"echo caps until, ack with until 5", "ack", 0},
		{"echo with open through with through", "open", -1},
		{"echo with open through with open through", "open", 2},
		{"echo", "open", -1},
	} {
		ch := chain(t, "handler a = "+x.src+";")
		if got := Who(ch, which(x.word)); got != x.who {
			t.Errorf("%s: %s: %d, not %d", x.src, x.word, got, x.who)
		}
	}
}

// P9.4: who answers at the first level that shows it, if all around that are Open.
func TestReached(t *testing.T) {
	for _, x := range []struct {
		src, word string
		reach     int
	}{
		{"count caps save with hide", "save", -1},
		{"count caps save with open hide", "save", 0},
		{"count caps save with open hide with hide", "save", -1},
		{"count caps save with hide with open hide", "save", -1},
		{"count caps save with open hide with open hide", "save", 0},
		{"count caps save with open hide with through", "save", -1},
		{"count caps save with give caps save with open hide", "save", 1},
		{"count caps save with give caps save with through with open hide", "save", 1},
		{"count caps save with give caps save with open mask caps load with open hide", "save", 1},
		{"count caps save with give caps save with mask caps load with open hide", "save", -1},
		{"count caps save with open hide with give caps save", "save", 2},
		{"count with open hide with open through", "save", -1},
		{"count caps flush, batch with open retry 3", "batch", 0},
		{"count caps flush, batch with retry 3", "batch", -1},
		{"count caps flush, batch with open retry 3 with open dedup 4 with open map:pair", "batch", 0},
		{"count caps flush, batch with buffer 3 3 with open retry 3", "batch", 1},
		{"count with open hide", "open", 1},
		{"count with open hide with hide", "open", -1},
		{"count with open hide with open hide", "open", 2},
	} {
		ch := chain(t, "handler a = "+x.src+";")
		if got := Reach(ch, which(x.word)); got != x.reach {
			t.Errorf("%s: %s: %d, not %d", x.src, x.word, got, x.reach)
		}
	}
}

// P9.5: lost is what is not reached, and what another one answers for.
func TestLost(t *testing.T) {
	for _, x := range []struct{ src, lost string }{
		{"count caps flush, close, save", ""},
		{"count caps flush, close, save with through", ""},
		{"count caps flush, close, save with hide", "flush close save"},
		{"count caps flush, close, save with open hide", ""},
		{"count caps flush, close, save with mask caps save, ping", "flush close"},
		{"count caps flush, close, save with open mask caps save, ping", ""},
		{"count caps flush, close, save with give caps close, ping", "close"},
		{"count caps flush, close, save with open give caps close, ping", "close"},
		{"count caps flush, close, save with hide with give caps close", "flush close save"},
		{"count caps flush, batch, ping, reset, until, ack with breaker 1 1", "batch ping"},
		{"count caps flush, batch, ping, reset, until, ack with open breaker 1 1", "ping"},
		{"count caps flush, batch, ping, reset, until, ack with buffer 1 1 with until 1 with dedup 1", "flush batch reset until"},
	} {
		ch := chain(t, "handler a = "+x.src+";")
		if got := Lost(ch); text(got) != x.lost {
			t.Errorf("%s: %s, not %s", x.src, text(got), x.lost)
		}
	}
}
