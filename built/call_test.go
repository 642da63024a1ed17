package built

import (
	"math"
	"strings"
	"testing"

	"conduit/api"
	"conduit/shown"
)

// P20.4: any capability of any fit chain, from any fit state on.
func TestCallAsSaid(t *testing.T) {
	r := newRandom(6)
	seen := map[string]int{}
	for range 60000 {
		ch := randomChain(t, r)
		c := randomCall(r, ch, randomState(r, ch))
		c.what, c.which, c.deep = callCap, r.IntN(11), r.IntN(2) == 0
		c.arg = randomArg(r, c.which)
		x := c.asSaid(t)
		who := shown.Who(ch, c.which)
		if c.deep {
			who = shown.Reach(ch, c.which)
		}
		level := "none"
		if who == 0 {
			level = "core"
		} else if who > 0 {
			level = wrapWords[ch.Wraps[who-1].Op]
		}
		what := level + " " + capWords[c.which]
		seen[what]++
		if x.result.Err != api.OK {
			seen[what+" "+x.result.Err.Error()]++
		}
		if len(x.done) > 0 {
			seen[what+" beside"]++
		}
	}
	all := strings.Split("none open|core flush|core close|core save|core load error 110|give flush|give batch|give close|give save|breaker ping error 140|dedup reset|buffer flush beside|buffer batch beside|buffer batch error 110|until until|until until error 82|until until error 110|map open|give open|buffer open|mask open|hide open|none flush error 201", "|")
	for _, what := range all {
		if seen[what] < 15 {
			t.Error(what, seen[what])
		}
	}
}

// P20.4: numbers that are no capability are not shown, and nothing is done.
func TestNoCapability(t *testing.T) {
	numbers := []int{-1, -2, -10, -64, 11, 12, 31, 32, 33, 63, 64, 65, 74, 1024, 1 << 32, math.MaxInt32, math.MinInt32, math.MaxInt, math.MinInt}
	for _, ch := range append(allChains(t), chain(t, "store caps flush with open give caps flush, close, batch, ack, ping, reset, save, load, name, until")) {
		st := randomState(newRandom(7), ch)
		for _, which := range numbers {
			for _, deep := range []bool{false, true} {
				after, done, r := Call(ch, st, which, number(1), 0, deep)
				if show(r) != "error 201" || len(done) != 0 || !sameState(after, st) {
					t.Errorf("%d: %s", which, show(r))
				}
			}
		}
	}
}

// P20.4: what is not shown can't be asked; opened, it can, by whom it is reached.
func TestShownOrReached(t *testing.T) {
	const core = "store caps flush, close, ping, save, load, name with "
	play(t, core+"mask caps name", "1 5 => 1=0*", "flush nil => error 201", "deep flush nil => error 201", "name nil => \"store\"", "deep name nil => \"store\"", "open nil => error 201", "deep open nil => error 201")
	play(t, core+"open mask caps name", "1 5 => 1=0*", "flush nil => error 201", "deep flush nil => 1", "1 5 => 1=0*", "open nil => \"store\"")
	// A shut level in between ends it.
	play(t, core+"hide with open hide", "ping nil => error 201", "deep ping nil => error 201", "open nil => \"hide\"", "deep open nil => \"hide\"")
	// Open itself is asked within, where the outer one does not show it.
	play(t, core+"open hide with through", "open nil => error 201", "deep open nil => error 201")
	play(t, core+"open hide with open through with open through", "open nil => \"through\"", "deep ping nil => true")
	// What is reached first answers.
	play(t, core+"give caps name with open hide with give caps ack", "name nil => error 201", "deep name nil => error 201")
	play(t, core+"give caps name with open hide", "name nil => error 201", "deep name nil => \"give\"", "deep save nil => ([0, 0, 0, false], (nil, []))")
}

// P20.4: open, of any wrapper around any: the word of the level below.
func TestOpen(t *testing.T) {
	for op := 1; op <= 12; op++ {
		for below := 1; below <= 12; below++ {
			ch := api.Chain{Core: coreWith(below, 1, 0), Wraps: []api.Wrap{wrapWith(op, 3, 3, 1<<api.CapName, true)}}
			fitChain(t, ch)
			playFrom(t, ch, New(ch, 0), `open nil => "`+coreWords[below]+`"`, `deep open [1] => "`+coreWords[below]+`"`)
			ch.Wraps = []api.Wrap{wrapWith(below, 3, 3, 1, false), ch.Wraps[0]}
			fitChain(t, ch)
			playFrom(t, ch, New(ch, 0), `open nil => "`+wrapWords[below]+`"`, `deep open [1] => "`+wrapWords[below]+`"`)
			ch.Wraps[1].Open = false
			playFrom(t, ch, New(ch, 0), `open nil => error 201`)
		}
	}
}

// P20.4: what is given is answered by who gives it, whatever the argument; the core is not asked.
func TestGive(t *testing.T) {
	const all = "flush, close, batch, ack, ping, reset, save, load, name, until"
	for _, core := range []string{"fail 3", "store caps flush, close, batch, ack, ping, reset, save, load, name, until"} {
		ch := chain(t, core+" with open give caps "+all+" with through")
		st := playFrom(t, ch, New(ch, 0), "1 5 => 1="+map[bool]string{true: "code 3", false: "0"}[core == "fail 3"]+"*")
		for _, arg := range []string{"nil", "5", "[1]", "-1"} {
			after := playFrom(t, ch, st,
				"flush "+arg+" => 0", "close "+arg+" => none", "batch "+arg+" => none", "ack "+arg+" => 0", "ping "+arg+" => true",
				"reset "+arg+" => none", "save "+arg+" => none", "load "+arg+" => none", "name "+arg+" => \"give\"", "until "+arg+" => none", "deep open "+arg+" => error 201")
			if !sameState(after, st) {
				t.Error(after)
			}
		}
	}
	play(t, "echo with open give caps flush", "open nil => \"echo\"", "ping nil => error 201")
}

// P20.4: a core's own, with all around it as it was.
func TestCoreAnswers(t *testing.T) {
	play(t, "store caps flush, close, batch, ack, ping, reset, save, load, name, until with through with until 9 with limit 9 9", "1 5 => 1=0*", "flush nil => 1", "ack 1 => 1", "ack nil => panic assert 0", "ping nil => true", "save nil => ([0, 1, 0, false], (nil, []))", "load ([4, 5, 6, false], (7, [8])) => none", "load 3 => panic assert 1", "save nil => ([4, 5, 6, false], (7, [8]))", "reset nil => none", "name nil => \"store\"", "batch [1] => error 201", "close nil => none", "close nil => error 200", "1 5 => 1=error 200*")
	play(t, "store caps flush, batch with through", "batch [1, 2, 1, [3]] => 3", "batch 5 => panic assert 1", "flush nil => 2")
	// What close does stays beside its error.
	play(t, "fail 7 caps close with retry 3", "close nil => code 7", "close nil => error 200", "1 5 => 1=error 200*")
	play(t, "panic 7 caps close with breaker 3 3", "close nil => panic own 7", "close nil => error 200")
	// The wrappers around do not look at what is answered.
	st := play(t, "fail 7 caps ping with breaker 1 5 with retry 3 with open mask caps name", "deep ping nil => true")
	if st.Wraps[0].Breaker != (api.Breaker{}) {
		t.Error(st)
	}
	play(t, "echo caps until with map:list", "until 5 => none", "at 6", "1 1 => 1=error 170*", "until 1099511627777 => error 82", "until 0 => none", "1 1 => 1=[1]*")
}

// P20.4: the breaker's ping tells whether it is open, the core's is not asked.
func TestPing(t *testing.T) {
	play(t, "fail 1 caps ping with breaker 1 5", "ping nil => true", "1 1 => 1=code 1*", "ping nil => error 140", "at 4", "ping nil => error 140", "at 5", "ping nil => true", "2 1 => 2=code 1*", "ping nil => error 140", "at 10", "ping 7 => true")
	st := play(t, "fail 1 with breaker 2 5", "1 1 => 1=code 1*", "ping nil => true")
	if st.Wraps[0].Breaker != (api.Breaker{Fails: 1}) {
		t.Error(st)
	}
}

// P20.4: behind the dedup's reset nothing is known; the core's is not asked.
func TestReset(t *testing.T) {
	play(t, "count caps ping, reset with dedup 3", "1 1 => 1=1*", "1 1 => 1=error 150*", "reset nil => none", "1 1 => 1=2*", "1 1 => 1=error 150*", "reset [1] => none", "reset nil => none", "1 1 => 1=3*")
	// Of two, the outer one alone.
	play(t, "count with dedup 3 with open dedup 3", "1 1 => 1=1*", "deep reset nil => none", "1 1 => 1=error 150*", "2 1 => 2=2*")
	play(t, "count caps ping, reset with dedup 3 with open mask caps ping", "1 1 => 1=1*", "reset nil => error 201", "deep reset nil => none", "1 1 => 1=2*")
}

// P20.4: flush is of the outermost buffer that is asked; what it held is handled within it alone.
func TestFlush(t *testing.T) {
	play(t, "count with buffer 9 5", "flush nil => 0", "1 1 => -", "2 1 => -", "flush [1] => 2 beside 1=1, 2=2", "flush nil => 0", "at 9", "tick => -")
	play(t, "fail 1 with retry 2 with buffer 9 5 with retry 2 with limit 2 9 with breaker 1 5", "1 1 => -", "2 1 => -", "3 1 => 3=error 130*", "flush nil => 2 beside 1=code 1, 2=code 1", "ping nil => true")
	play(t, "count with buffer 2 0 with buffer 9 0", "1 1 => -", "2 1 => -", "3 1 => -", "flush nil => 3 beside 1=1, 2=2", "flush nil => 0", "4 1 => -", "flush nil => 1 beside 3=3, 4=4")
	play(t, "store caps flush with buffer 9 0", "1 7 => -", "flush nil => 1 beside 1=0", "2 7 => -", "flush nil => 1 beside 2=0")
	// Each is handled at the tick that it is.
	play(t, "echo with until 3 with buffer 9 0", "1 1 => -", "at 2", "2 1 => -", "at 4", "flush nil => 2 beside 1=error 170, 2=1")
	// A give around it answers, and nothing goes on.
	play(t, "count with buffer 9 0 with give caps flush", "1 1 => -", "flush nil => 0", "2 1 => -")
}

// P20.4: a batch passes the buffer by; each place is a message of its own, with the topic batch, the number 0, published now.
func TestBatch(t *testing.T) {
	play(t, "count with buffer 9 5", "batch [] => 0", "batch [1, 2] => 2 beside 0=1, 0=2", "5 1 => -", "batch [nil] => 1 beside 0=3", "flush nil => 1 beside 5=4")
	play(t, "nth 0 with buffer 9 5", `batch [[5], [], 7, ["x"]] => 2 beside 0=5, 0=panic index 0, 0=panic assert 1, 0="x"`)
	for kind, arg := range map[string]string{"0": "nil", "1": "5", "4": `"x"`, "7": "%00", "9": "([], [])", "12": "&nil"} {
		play(t, "count with buffer 9 5", "5 1 => -", "batch "+arg+" => panic assert "+kind, "flush nil => 1 beside 5=1")
	}
	play(t, "echo with map:pair with buffer 9 5", `batch [1] => 1 beside 0=("batch", 1)`)
	play(t, "echo with until 3 with buffer 9 5", "at 77", "batch [1] => 1 beside 0=1")
	play(t, "echo with dedup 3 with buffer 9 5", "batch [1, 2] => 1 beside 0=1, 0=error 150", "0 1 => -", "flush nil => 1 beside 0=error 150")
	play(t, "echo with filter when int with buffer 9 5", `batch [1, "x", 3] => 2 beside 0=1, 0=error 171, 0=3`)
	// Where a buffer within holds them, their own results have not come; others do not count.
	st := play(t, "echo with buffer 3 5 with buffer 9 5", "at 6", "batch [1, 2] => 0", "batch [3, 4] => 1 beside 0=1, 0=2, 0=3")
	if l := Held(st); len(l) != 1 || !sameMsg(l[0], api.Msg{Topic: "batch", Body: number(4), At: 6}) || st.Wraps[0].Buffer.Since != 6 {
		t.Error(st)
	}
	play(t, "nth 0 with buffer 2 5 with buffer 9 5", "batch [[], [5], [6], []] => 1 beside 0=panic index 0, 0=5, 0=6, 0=panic index 0")
	// The core's batch lies behind it.
	play(t, "store caps flush, batch with buffer 9 5", "batch [1, 1] => 2 beside 0=0, 0=0")
	play(t, "store caps flush, batch with retry 2", "batch [1, 1] => error 201")
}

// P20.4: until of a WrUntil is its own; the core's is not asked.
func TestUntilCall(t *testing.T) {
	st := play(t, "echo caps until with until 5", "until 9 => none", "until 1099511627776 => none", "until 0 => none", "until 7 => none", "until -1 => error 82", "until 1099511627777 => error 82", "until nil => panic assert 0", "until #7 => panic assert 2", `until "7" => panic assert 4`)
	if st.Wraps[0].Until != 7 || st.Core.Until != 0 {
		t.Error(st)
	}
	play(t, "echo with until 5 with open until 9 with map:list", "until 3 => none", "at 4", "1 1 => 1=error 170*", "until 4 => none", "1 1 => 1=[1]*", "at 5", "1 1 => 1=error 170*")
}
