package acks

import (
	"math/rand/v2"
	"slices"
	"testing"

	"conduit/api"
)

// Kinds of calls in a row.
const (
	callSend = iota
	callAck
	callNack
	callDue
	numCalls
)

// call is one of the four, wait ticks behind the one ahead; until is a message's, in ticks from then on (0: none).
type call struct {
	kind  int
	id    int64
	wait  int64
	until int64
}

// life is a message on its way: the ticks at which it was sent, and whether it was refused since the last time.
type life struct {
	until  int64
	ticks  []int64
	nacked bool
}

// run is a row of calls from nothing on, with what became of each message.
type run struct {
	t     testing.TB
	p     api.Policy
	l     []api.Sent
	now   int64
	lives map[int64]*life
	ends  map[string]int
}

func newRun(t testing.TB, p api.Policy) *run {
	return &run{t: t, p: p, lives: map[int64]*life{}, ends: map[string]int{}}
}

// end is that of one that waited: P24.6.
func (x *run) end(id int64, how string) *life {
	x.t.Helper()
	was := x.lives[id]
	if was == nil {
		x.t.Fatalf("%v, at %d: %d is told as %s and does not wait", x.p, x.now, id, how)
	}
	delete(x.lives, id)
	x.ends[how]++
	return was
}

func (x *run) send(c call) {
	x.t.Helper()
	m := plain(c.id)
	if c.until > 0 {
		m.Until = x.now + c.until
	}
	l, e := sendAsSaid(x.t, x.l, m, x.p, x.now)
	if x.l = l; (e == api.OK) != (x.lives[c.id] == nil) {
		x.t.Fatalf("%v, at %d: %d is sent: %v", x.p, x.now, c.id, e)
	}
	if e == api.OK {
		x.lives[c.id] = &life{until: m.Until, ticks: []int64{x.now}}
	}
}

func (x *run) ack(c call) {
	x.t.Helper()
	l, e := ackAsSaid(x.t, x.l, c.id)
	if x.l = l; (e == api.OK) != (x.lives[c.id] != nil) {
		x.t.Fatalf("%v, at %d: %d is acknowledged: %v", x.p, x.now, c.id, e)
	}
	if e == api.OK {
		x.end(c.id, "acknowledged")
	}
}

func (x *run) nack(c call) {
	x.t.Helper()
	l, e := nackAsSaid(x.t, x.l, c.id, x.now)
	if x.l = l; (e == api.OK) != (x.lives[c.id] != nil) {
		x.t.Fatalf("%v, at %d: %d is refused: %v", x.p, x.now, c.id, e)
	}
	if e == api.OK {
		x.lives[c.id].nacked = true
	}
}

// sentAgain holds a message that goes out once more against P24.8.
func (x *run) sentAgain(id int64) {
	x.t.Helper()
	m := x.lives[id]
	if m == nil {
		x.t.Fatalf("%v, at %d: %d goes again and does not wait", x.p, x.now, id)
	}
	k := int64(len(m.ticks))
	if between := x.now - m.ticks[k-1]; !m.nacked && between < chapterWait(k-1, x.p) {
		x.t.Fatalf("%v, at %d: %d goes again %d ticks behind its %d-th time", x.p, x.now, id, between, k)
	}
	m.ticks, m.nacked = append(m.ticks, x.now), false
}

func (x *run) due() told {
	x.t.Helper()
	a := dueAsSaid(x.t, x.l, x.p, x.now)
	x.l = a.rest
	for _, m := range a.again {
		x.sentAgain(m.Id)
	}
	for _, m := range a.dead {
		if was := x.end(m.Id, "dead"); int64(len(was.ticks)) != x.p.Tries {
			x.t.Fatalf("%v, at %d: %d is dead and was sent %d times", x.p, x.now, m.Id, len(was.ticks))
		}
	}
	for _, m := range a.late {
		if was := x.end(m.Id, "late"); was.until == 0 || was.until >= x.now {
			x.t.Fatalf("%v, at %d: %d is late, and is of use until %d", x.p, x.now, m.Id, was.until)
		}
	}
	if again := due(x.l, x.p, x.now); again.has() {
		x.t.Fatalf("%v, at %d: Due has something again: %s", x.p, x.now, again.show())
	}
	return a
}

// do holds a call against P24.6 and P24.8; a message waits just as long as it has come to no end.
func (x *run) do(c call) {
	x.t.Helper()
	x.now += c.wait
	switch c.kind {
	case callSend:
		x.send(c)
	case callAck:
		x.ack(c)
	case callNack:
		x.nack(c)
	case callDue:
		x.due()
	}
	if len(x.l) != len(x.lives) {
		x.t.Fatalf("%v, at %d: %d should wait: %s", x.p, x.now, len(x.lives), show(x.l))
	}
	for _, s := range x.l {
		if m := x.lives[s.Msg.Id]; m == nil || s.Tries != int64(len(m.ticks)) {
			x.t.Fatalf("%v, at %d: %d waits: %s", x.p, x.now, s.Msg.Id, show(x.l))
		}
	}
}

// P24.6, P24.8: small rows, all of them.
func TestRowsSmall(t *testing.T) {
	calls := []call{
		{kind: callSend, id: 1}, {kind: callSend, id: 2, until: 2}, {kind: callAck, id: 1}, {kind: callNack, id: 1},
		{kind: callNack, id: 2, wait: 1}, {kind: callDue, wait: 1}, {kind: callDue, wait: 2},
	}
	for long := range 7 {
		eachRow(long, len(calls), func(row []int) {
			x := newRun(t, api.Policy{Tries: int64(1 + long%3), Base: 1, Most: 2})
			for _, n := range row {
				x.do(calls[n])
			}
		})
	}
}

func randomCall(r *rand.Rand) call {
	kind := pick(r, callSend, callSend, callDue, callDue, callDue, callAck, callNack)
	return call{kind: kind, id: r.Int64N(12), wait: r.Int64N(4), until: pick(r, 0, 0, r.Int64N(40))}
}

// P24.6, P24.8: any rows.
func TestRowsRandom(t *testing.T) {
	r := newRandom(5)
	ends := map[string]int{}
	for range 3000 {
		x := newRun(t, randomPolicy(r))
		for range r.IntN(120) {
			x.do(randomCall(r))
		}
		for how, n := range x.ends {
			ends[how] += n
		}
	}
	if min(ends["acknowledged"], ends["dead"], ends["late"]) < 1000 {
		t.Error(ends)
	}
}

// P24.7: where Due is asked at each tick, none waits that was not sent within Most ticks; refusals make it sooner alone.
func TestWithinMost(t *testing.T) {
	r := newRandom(6)
	for range 400 {
		base := 1 + r.Int64N(6)
		x := newRun(t, api.Policy{Tries: 1 + r.Int64N(mostTries), Base: base, Most: base + pick(r, 0, r.Int64N(30))})
		for range 200 {
			for range r.IntN(3) {
				c := randomCall(r)
				c.wait = 0
				x.do(c)
			}
			x.do(call{kind: callDue, wait: 1})
			for id, m := range x.lives {
				if last := m.ticks[len(m.ticks)-1]; x.now-last >= x.p.Most {
					t.Fatalf("%v, at %d: %d was sent last at %d", x.p, x.now, id, last)
				}
			}
		}
	}
}

// P24.8: asked at each tick and never refused, it is sent just when the waits are over.
func TestNoSooner(t *testing.T) {
	for tries := int64(1); tries <= mostTries; tries++ {
		for base := int64(1); base < 5; base++ {
			for most := base; most < 40; most += 3 {
				x := newRun(t, api.Policy{Tries: tries, Base: base, Most: most})
				x.do(call{kind: callSend, id: 1})
				want := []int64{0}
				for k := int64(1); k < tries; k++ {
					want = append(want, want[k-1]+chapterWait(k-1, x.p))
				}
				m := x.lives[1]
				for len(x.l) > 0 {
					x.do(call{kind: callDue, wait: 1})
				}
				if !slices.Equal(m.ticks, want) || x.now != want[tries-1]+chapterWait(tries-1, x.p) {
					t.Fatalf("%v: sent at %v, dead at %d", x.p, m.ticks, x.now)
				}
			}
		}
	}
}

// P24.9: from Next to Next comes the same as tick by tick.
func TestFromNextToNext(t *testing.T) {
	r := newRandom(7)
	for range 1500 {
		p := api.Policy{Tries: 1 + r.Int64N(5), Base: 1 + r.Int64N(3), Most: 3 + r.Int64N(9)}
		steps, jumps := newRun(t, p), newRun(t, p)
		for id := range r.Int64N(8) {
			c := call{kind: callSend, id: id, wait: r.Int64N(3), until: pick(r, 0, r.Int64N(30))}
			steps.do(c)
			jumps.do(c)
		}
		for len(jumps.l) > 0 {
			at, ok := nextAsSaid(t, jumps.l)
			if !ok {
				t.Fatalf("%v: %s: there is no Next", p, show(jumps.l))
			}
			jumps.now = max(at, jumps.now)
			whole := jumps.due()
			for steps.now < jumps.now {
				if a := steps.due(); a.has() {
					t.Fatalf("%v: at %d, ahead of Next: %s", p, steps.now, a.show())
				}
				steps.now++
			}
			if a := steps.due(); !a.has() || !sameTold(a, whole) {
				t.Fatalf("%v: at %d: %s, not %s", p, steps.now, a.show(), whole.show())
			}
		}
		if len(steps.l) > 0 {
			t.Fatal(show(steps.l))
		}
	}
}

// FuzzCalls looks for rows of calls in which a message is lost, has two ends, or is sent at another time than it should.
func FuzzCalls(f *testing.F) {
	f.Add(int64(3), int64(2), int64(5), []byte{0, 67, 3, 131})
	f.Add(int64(1), int64(1), int64(1), []byte{0, 1, 4, 8, 0, 3})
	f.Add(int64(16), int64(7), int64(1000), []byte{200, 100, 50, 25, 2, 255, 1})
	f.Fuzz(func(t *testing.T, tries, base, most int64, l []byte) {
		if tries < 1 || tries > mostTries || base < 1 || base > mostTicks || most < base || most > mostTicks || len(l) > 500 {
			return
		}
		x := newRun(t, api.Policy{Tries: tries, Base: base, Most: most})
		for i, b := range l {
			n := int64(b / numCalls)
			x.do(call{kind: int(b % numCalls), id: n % 4, wait: n / 4 % 8, until: n / 32 * int64(i)})
			comesFirst(t, x.l, x.p, x.now)
		}
	})
}
