package reply

import (
	"math/rand/v2"
	"testing"

	"conduit/api"
)

// Kinds of calls in a row.
const (
	callOpen = iota
	callAnswer
	callExpire
)

// call is one of the three; tick is Open's until, and the others' now.
type call struct {
	kind  int
	corr  int64
	topic string
	tick  int64
}

// run is a row of calls from nothing on, with what was told of each request.
type run struct {
	t      testing.TB
	st     api.Asks
	topics map[int64]string
	until  map[int64]int64
	ends   map[int64]string
	last   int64
}

func newRun(t testing.TB, next int64) *run {
	return &run{
		t: t, st: api.Asks{Next: next}, last: next,
		topics: map[int64]string{}, until: map[int64]int64{}, ends: map[int64]string{},
	}
}

// end writes an end down: P23.4.
func (x *run) end(corr int64, how string) {
	x.t.Helper()
	if _, was := x.topics[corr]; !was {
		x.t.Fatalf("%d is told as %s and was never opened", corr, how)
	}
	if before, was := x.ends[corr]; was {
		x.t.Fatalf("%d is told as %s, and was told as %s", corr, how, before)
	}
	x.ends[corr] = how
}

func (x *run) open(c call) {
	x.t.Helper()
	st, n, e := openAsSaid(x.t, x.st, c.topic, c.tick)
	if x.st = st; e != api.OK {
		return
	}
	if n <= x.last {
		x.t.Fatalf("the number %d behind %d", n, x.last)
	}
	x.last, x.topics[n], x.until[n] = n, c.topic, c.tick
}

func (x *run) answer(c call) {
	x.t.Helper()
	st, e := answerAsSaid(x.t, x.st, c.corr, c.topic, c.tick)
	topic, was := x.topics[c.corr]
	_, ended := x.ends[c.corr]
	late := x.until[c.corr] != 0 && x.until[c.corr] < c.tick
	switch x.st = st; {
	case !was || ended || topic != c.topic:
		if e != api.ErrReply {
			x.t.Fatalf("an answer to %d, which does not wait on %q: %v", c.corr, c.topic, e)
		}
	case late && e == api.ErrLate:
		x.end(c.corr, "late")
	case !late && e == api.OK:
		x.end(c.corr, "answered")
	default:
		x.t.Fatalf("an answer to %d at %d: %v", c.corr, c.tick, e)
	}
}

// expire asks for P23.7 too: of those that are left none is late at that tick.
func (x *run) expire(c call) {
	x.t.Helper()
	st, late := expireAsSaid(x.t, x.st, c.tick)
	for _, a := range late {
		x.end(a.Corr, "expired")
	}
	for _, a := range st.Wait {
		if _, e := Answer(st, a.Corr, a.Topic, c.tick); e != api.OK {
			x.t.Fatalf("behind Expire at %d, an answer to %d at that tick: %v", c.tick, a.Corr, e)
		}
	}
	if _, again := Expire(st, c.tick); len(again) != 0 {
		x.t.Fatalf("behind Expire at %d, again: %v", c.tick, again)
	}
	x.st = st
}

// do holds a call against P23.4 to P23.7; a request waits just as long as it has come to no end.
func (x *run) do(c call) {
	x.t.Helper()
	switch c.kind {
	case callOpen:
		x.open(c)
	case callAnswer:
		x.answer(c)
	case callExpire:
		x.expire(c)
	}
	if len(x.st.Wait) != len(x.topics)-len(x.ends) {
		x.t.Fatalf("%d were opened, %d came to an end, %d wait", len(x.topics), len(x.ends), len(x.st.Wait))
	}
	for _, a := range x.st.Wait {
		if _, ended := x.ends[a.Corr]; ended || x.topics[a.Corr] != a.Topic || x.until[a.Corr] != a.Until {
			x.t.Fatalf("%v waits", a)
		}
	}
}

// P23.4 to P23.7: small rows, all of them.
func TestRowsSmall(t *testing.T) {
	var calls []call
	for tick := range int64(3) {
		calls = append(calls, call{kind: callOpen, topic: "r", tick: tick}, call{kind: callExpire, tick: tick + 1})
	}
	for corr := int64(1); corr < 3; corr++ {
		calls = append(calls, call{callAnswer, corr, "r", 1}, call{callAnswer, corr, "r", 2}, call{callAnswer, corr, "s", 2})
	}
	for long := range 6 {
		eachRow(long, int64(len(calls)), func(row []int64) {
			x := newRun(t, 0)
			for _, n := range row {
				x.do(calls[n])
			}
		})
	}
}

// randomCall is one that has mostly to do with the requests that were opened.
func randomCall(r *rand.Rand, x *run) call {
	c := call{kind: pick(r, callOpen, callOpen, callAnswer, callAnswer, callExpire), topic: randomTopic(r), tick: randomTick(r)}
	switch c.kind {
	case callAnswer:
		if c.corr, c.topic = randomAnswer(r, x.st); r.IntN(4) == 0 && x.last > 0 {
			c.corr = max(x.last-r.Int64N(20), 0)
			c.topic = x.topics[c.corr]
		}
	case callExpire:
		c.tick = r.Int64N(6)
	}
	return c
}

// P23.4 to P23.7: any rows, at the bound of the numbers too.
func TestRowsRandom(t *testing.T) {
	r := newRandom(4)
	ends := map[string]int{}
	for range 4000 {
		x := newRun(t, pick(r, 0, 0, r.Int64N(50), greatest-r.Int64N(20), r.Int64N(greatest)))
		for range r.IntN(80) {
			x.do(randomCall(r, x))
		}
		for _, how := range x.ends {
			ends[how]++
		}
	}
	if min(ends["answered"], ends["late"], ends["expired"]) < 1000 {
		t.Error(ends)
	}
}

// P23.4: behind each of the three ends an answer is ErrReply, at any tick, and nothing expires.
func TestOneEnd(t *testing.T) {
	st := until(5, 5, 0)
	answered, _ := Answer(st, 2, "r", 5)
	late, _ := Answer(st, 2, "r", 6)
	expired, _ := Expire(st, 6)
	for i, x := range []api.Asks{answered, late, expired} {
		for now := range int64(10) {
			if _, e := answerAsSaid(t, x, 2, "r", now); e != api.ErrReply {
				t.Errorf("%d, at %d: %v", i, now, e)
			}
			_, l := expireAsSaid(t, x, now)
			for _, a := range l {
				if a.Corr == 2 {
					t.Errorf("%d, at %d: it expires", i, now)
				}
			}
		}
	}
}

// P23.5: no number comes again, though all that waited are gone, and none is given at the bound.
func TestNumbersRise(t *testing.T) {
	st := api.Asks{Next: greatest - 5}
	for i := range int64(5) {
		var n int64
		if st, n, _ = openAsSaid(t, st, "r", 1); n != greatest-4+i {
			t.Fatal(i, n)
		}
		if i%2 == 0 {
			st, _ = answerAsSaid(t, st, n, "r", 0)
		} else {
			st, _ = expireAsSaid(t, st, 2)
		}
	}
	for range 3 {
		var e api.Errno
		if st, _, e = openAsSaid(t, st, "r", 1); e != api.ErrFull || len(st.Wait) != 0 {
			t.Error(show(st), e)
		}
	}
}

// P23.7: any states, any ticks.
func TestNoneLateBehindExpire(t *testing.T) {
	r := newRandom(5)
	asked := 0
	for range 10000 {
		now := randomTick(r)
		st, _ := expireAsSaid(t, randomState(r, 10), now)
		for _, a := range st.Wait {
			asked++
			if _, e := answerAsSaid(t, st, a.Corr, a.Topic, now); e != api.OK {
				t.Fatalf("%s, at %d: %d: %v", show(st), now, a.Corr, e)
			}
		}
	}
	if asked < 1000 {
		t.Error(asked)
	}
}

// FuzzCalls looks for rows of calls in which a request is lost, has two ends, or has another one than it should.
func FuzzCalls(f *testing.F) {
	f.Add(int64(0), []byte{15, 0, 4, 1, 2})
	f.Add(greatest-2, []byte{0, 3, 6, 1, 4, 7})
	f.Add(int64(3), []byte{200, 100, 50, 25, 2, 255, 1})
	f.Fuzz(func(t *testing.T, next int64, l []byte) {
		if next < 0 || next > greatest || len(l) > 500 {
			return
		}
		x := newRun(t, next)
		for _, b := range l {
			n := int64(b / 3)
			x.do(call{kind: int(b % 3), corr: x.last - n/4%8, topic: []string{"r", "s"}[n%2], tick: n / 8})
		}
	})
}
