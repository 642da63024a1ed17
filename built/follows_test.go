package built

import (
	"maps"
	"math/rand/v2"
	"slices"
	"strconv"
	"strings"
	"testing"

	"conduit/api"
	"conduit/shown"
)

// P20.7: ErrShown is told just of what is not shown, and, deep, of what is not reached.
func TestShownExactly(t *testing.T) {
	r := newRandom(8)
	for range 5000 {
		ch := randomChain(t, r)
		st := randomState(r, ch)
		for which := -1; which <= 11; which++ {
			is := which >= 0 && which <= 10 && shown.Shown(ch)&(1<<which) != 0
			if _, _, x := Call(ch, st, which, randomArg(r, which), randomTick(r), false); (x.Err == api.ErrShown) == is {
				t.Fatalf("%+v: %d: %s", ch, which, show(x))
			}
			is = shown.Reach(ch, which) >= 0
			if _, _, x := Call(ch, st, which, randomArg(r, which), randomTick(r), true); (x.Err == api.ErrShown) == is {
				t.Fatalf("%+v: deep %d: %s", ch, which, show(x))
			}
		}
	}
}

// P20.8, and P20.2 to P20.6: along rows of calls, each from the state that the one ahead came to.
func TestRows(t *testing.T) {
	r := newRandom(9)
	for range 1500 {
		ch := randomChain(t, r)
		st, now := New(ch, 0), int64(0)
		if r.IntN(3) == 0 {
			st = randomState(r, ch)
		}
		for range 25 {
			c := randomCall(r, ch, st)
			// Closed, or too late, little more happens.
			if c.what == callCap && (c.which == api.CapClose || c.which == api.CapUntil) && r.IntN(4) > 0 {
				continue
			}
			now += r.Int64N(3)
			c.now = now
			c.m.At = max(0, now-r.Int64N(3))
			st = c.asSaid(t).st
		}
	}
}

// lost is the numbers of messages that were handled more or less often than results of them have come and they are held.
func lost(handled, told, held map[int64]int) []int64 {
	var l []int64
	for id, n := range handled {
		if told[id]+held[id] != n {
			l = append(l, id)
		}
	}
	return slices.Sorted(slices.Values(l))
}

// P20.9: each message has had its own result, or is held, once; without a buffer it has it at once.
func TestNothingIsLost(t *testing.T) {
	r := newRandom(10)
	for range 1500 {
		ch := randomChain(t, r)
		buffers := slices.ContainsFunc(ch.Wraps, func(w api.Wrap) bool { return w.Op == api.WrBuffer })
		st := New(ch, 0)
		handled, told := map[int64]int{}, map[int64]int{}
		for id := range int64(25) {
			c := randomCall(r, ch, st)
			if c.what == callCap && (c.which == api.CapBatch || c.which == api.CapClose) {
				continue
			}
			if c.what == callHandle {
				c.m.Id = id
				handled[id]++
			}
			x := c.ask()
			st = x.st
			for _, d := range x.done {
				told[d.Id]++
			}
			if x.own && x.done[len(x.done)-1].Id != id || c.what == callHandle && !buffers && (!x.own || len(x.done) != 1) {
				t.Fatalf("%+v: %s", c, x)
			}
			held := map[int64]int{}
			for _, m := range Held(st) {
				held[m.Id]++
			}
			if l := lost(handled, told, held); len(l) > 0 || len(told) > len(handled) {
				t.Fatalf("%+v: %d are lost, or come twice", ch, l)
			}
			if c.what == callHandle && x.own == (held[id] > 0) {
				t.Fatalf("%+v: %s, held %v", c, x, held)
			}
		}
	}
}

// steadyChain is a fit chain in which nothing looks at the time, nor at how many there were.
func steadyChain(t *testing.T, r *rand.Rand) api.Chain {
	ch := api.Chain{Core: randomCore(r)}
	for range r.IntN(6) {
		w := randomWrap(r)
		if !slices.Contains([]int{api.WrLimit, api.WrBreaker, api.WrUntil, api.WrBuffer}, w.Op) {
			ch.Wraps = append(ch.Wraps, w)
		}
	}
	fitChain(t, ch)
	return ch
}

// P20.10: through a buffer the same results come in the same order.
func TestBatchesChangeNothing(t *testing.T) {
	r := newRandom(11)
	for range 4000 {
		ch := steadyChain(t, r)
		one := randomState(r, ch)
		one.Core.Until = 0
		around := api.Chain{Core: ch.Core, Wraps: append(slices.Clone(ch.Wraps), wrapWith(api.WrBuffer, r.Int64N(4), r.Int64N(6), 0, false))}
		fitChain(t, around)
		many := copied(one)
		many.Wraps = append(many.Wraps, api.WrapState{})
		var alone, together []api.Done
		now := int64(0)
		for range 12 {
			now += r.Int64N(3)
			m := randomMsg(r)
			after, done, own := Handle(ch, one, m, now)
			if !own || len(done) != 1 {
				t.Fatalf("%+v: %s", ch, showAll(done, own))
			}
			one, alone = after, append(alone, done...)
			now += r.Int64N(3)
			after, done, _ = Handle(around, many, m, now)
			many, together = after, append(together, done...)
			if r.IntN(3) == 0 {
				after, done = Tick(around, many, now)
				many, together = after, append(together, done...)
			}
		}
		after, done, _ := Call(around, many, api.CapFlush, api.Datum{}, now, false)
		together = append(together, done...)
		after.Wraps = after.Wraps[:len(ch.Wraps)]
		if !slices.EqualFunc(alone, together, sameDone) || !sameState(after, one) {
			t.Fatalf("%+v:\n%s, one by one\n%s", around, showAll(together, false), showAll(alone, false))
		}
	}
}

// panickers is cores, bodies of which they panic, and what is told of that.
var panickers = map[string]string{
	"panic 5 with | 1":                  "own 5",
	"panic -5 with | 1":                 "error -5",
	"unbox with | 1":                    "assert 3",
	"unbox with | nil":                  "assert -1",
	"unbox with | &nil":                 "nil 0",
	"nth -1 with | [1]":                 "index -1",
	"nth 9223372036854775807 with | []": "index 9223372036854775807",
	"nth 0 with | 1":                    "assert 1",
	"store with | [1]":                  "compare 0",
	"store with | (1, %00)":             "compare 0",
	"echo with map:double with | {}":    "assert 5",
	"echo with map:unbox with | &nil":   "nil 0",
	"echo with map:not with | 1":        "assert 1",
}

// P20.11: whatever a core does, or a map, it is told, and the chain goes on.
func TestNothingEscapes(t *testing.T) {
	for _, what := range slices.Sorted(maps.Keys(panickers)) {
		inner, body, _ := strings.Cut(what, "| ")
		for _, outer := range []string{"through", "hide", "retry 16", "limit 99 9", "breaker 99 9", "dedup 9", "filter when nil | any", "until 9", "buffer 1 0", "retry 2 with breaker 99 3 with through with limit 99 1"} {
			want := "panic " + panickers[what] + "*"
			st := play(t, inner+outer, "1 "+body+" => 1="+want, "2 "+body+" => 2="+want, "tick => -")
			if !sameCore(st.Core, api.CoreState{}) {
				t.Errorf("%s: %v", what, st)
			}
		}
		want := "panic " + panickers[what]
		play(t, inner+"buffer 9 3", "1 "+body+" => -", "2 "+body+" => -", "flush nil => 2 beside 1="+want+", 2="+want, "3 "+body+" => -", "at 3", "tick => 3="+want, "batch ["+body+"] => 0 beside 0="+want)
	}
}

// P20.9, P20.10: long rows through great buffers.
func TestLongRows(t *testing.T) {
	ch := chain(t, "count with buffer 1000 0")
	st := New(ch, 0)
	for id := range int64(2500) {
		after, done, own := Handle(ch, st, api.Msg{Id: id, Topic: "t"}, 0)
		st = after
		if whole := id%1000 == 999; own != whole || whole && len(done) != 1000 || !whole && len(done) != 0 {
			t.Fatalf("%d: %s", id, strconv.Itoa(len(done)))
		}
		for i, d := range done {
			if d.Id != id-999+int64(i) || d.Result.Body.Int != d.Id+1 {
				t.Fatal(d)
			}
		}
	}
	if l := Held(st); len(l) != 500 || l[0].Id != 2000 || !Fit(ch, st) {
		t.Error(len(l))
	}
}
