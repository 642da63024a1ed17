package acks

import (
	"math"
	"slices"
	"testing"

	"conduit/api"
	"conduit/value"
)

// Every call ends and none panics, at lists, policies and numbers of which nothing else is promised too.
func TestAnyNumbers(t *testing.T) {
	numbers := []int64{math.MinInt64, math.MinInt64 + 1, -1, 0, 1, 2, mostTicks + 1, api.MaxTick + 1, math.MaxInt64}
	for _, n := range numbers {
		odd := api.Msg{Id: n, Topic: "#", Body: api.Datum{Kind: -5, List: make([]api.Datum, 3)}, At: -1, Until: n, Hops: -7}
		for _, l := range [][]api.Sent{nil, {{Msg: odd, Tries: n, Due: -n}}, {{Msg: odd}, {Msg: odd}, {}}, upTo(3), make([]api.Sent, api.MaxSent+5)} {
			Next(l)
			Ack(l, n)
			for _, now := range numbers {
				Nack(l, n, now)
				for _, p := range []api.Policy{{}, {Tries: n, Base: now, Most: -n}, {Tries: now, Base: n, Most: math.MaxInt64}} {
					Send(l, odd, p, now)
					Due(l, p, now)
				}
			}
		}
	}
}

// Where more wait than may, none comes to wait; what was tried more often than may be is given up.
func TestPastTheBounds(t *testing.T) {
	l := upTo(api.MaxSent + 1)
	if got, e := Send(l, plain(-1), policy, 0); e != api.ErrFull || !same(got, l) {
		t.Error(len(got), e)
	}
	if a := due([]api.Sent{sent(1, policy.Tries+1, 3, 0)}, policy, 3); len(a.dead) != 1 || len(a.rest)+len(a.again)+len(a.late) != 0 {
		t.Error(a.show())
	}
}

// roomyBody is a value in memory with spare room behind its lists, where others stand.
func roomyBody(d api.Datum) api.Datum {
	var l []api.Datum
	for _, p := range d.List {
		l = append(l, roomyBody(p))
	}
	d.List = append(slices.Clip(l), api.Datum{Kind: api.KInt, Int: 77})[:len(l)]
	return d
}

func roomyMsg(m api.Msg) api.Msg {
	m.Body = roomyBody(m.Body)
	return m
}

// behind is what stands in the spare room of what is handed in: it would be found, if it played a part.
func behind(id int64) api.Sent { return sent(id, 1, -1, 1) }

// roomy is a list in memory with spare room behind, where another one stands.
func roomy(l []api.Sent, id int64) (out []api.Sent) {
	for _, s := range l {
		s.Msg = roomyMsg(s.Msg)
		out = append(out, s)
	}
	return append(slices.Clip(out), behind(id))[:len(l)]
}

// asMade tells whether nothing was written there since, in the spare room neither.
func asMade(got, made []api.Sent, id int64) bool {
	bodies := func(x, y api.Sent) bool { return bodyAsMade(x.Msg.Body, y.Msg.Body) }
	return same(got, made) && slices.EqualFunc(got, made, bodies) && sameSent(got[:len(got)+1][len(got)], behind(id))
}

func bodyAsMade(got, made api.Datum) bool {
	behind := got.List[:len(got.List)+1][len(got.List)]
	return behind.Int == 77 && slices.EqualFunc(got.List, made.List, bodyAsMade)
}

// scribble writes over lists, their bodies and all spare room.
func scribble(l []api.Sent) {
	l = l[:cap(l)]
	for i := range l {
		scribbleBody(l[i].Msg.Body)
		l[i] = sent(-12345, -1, -1, -1)
	}
}

func scribbleMsgs(l []api.Msg) {
	l = l[:cap(l)]
	for i := range l {
		scribbleBody(l[i].Body)
		l[i] = plain(-12345)
	}
}

func scribbleBody(d api.Datum) {
	l := d.List[:cap(d.List)]
	for i := range l {
		scribbleBody(l[i])
		l[i] = api.Datum{Kind: -1, Text: "scribbled"}
	}
}

func copyOf(l []api.Msg) (out []api.Msg) {
	for _, m := range l {
		m.Body = value.Copy(m.Body)
		out = append(out, m)
	}
	return out
}

func copyOfTold(a told) told {
	rest := slices.Clone(a.rest)
	for i, m := range copyOf(msgsOf(rest)) {
		rest[i].Msg = m
	}
	return told{rest, copyOf(a.again), copyOf(a.dead), copyOf(a.late)}
}

// ask is one of the calls that give a list; all lists but the first one are Due's.
type ask func(l []api.Sent, m api.Msg) (told, api.Errno)

func asks(id int64, p api.Policy, now int64) []ask {
	return []ask{
		func(l []api.Sent, m api.Msg) (told, api.Errno) {
			out, e := Send(l, m, p, now)
			return told{rest: out}, e
		},
		func(l []api.Sent, _ api.Msg) (told, api.Errno) {
			out, e := Ack(l, id)
			return told{rest: out}, e
		},
		func(l []api.Sent, _ api.Msg) (told, api.Errno) {
			out, e := Nack(l, id, now)
			return told{rest: out}, e
		},
		func(l []api.Sent, _ api.Msg) (told, api.Errno) { return due(l, p, now), api.OK },
	}
}

// 0.3, 0.4, 0.8: what is handed in stays as it is, spare room too, plays no part behind its end, and is not kept; what was answered does not hang on it.
func TestHandedIn(t *testing.T) {
	r := newRandom(8)
	for range 10000 {
		p := randomPolicy(r)
		made := randomList(r, p, 6)
		id := randomId(r, made)
		m := randomMsg(r, id)
		for k, do := range asks(id, p, randomTick(r)) {
			in, msg := roomy(made, id), roomyMsg(m)
			got, e := do(in, msg)
			if !asMade(in, made, id) || !bodyAsMade(msg.Body, m.Body) {
				t.Fatalf("%d: what was handed in has changed, or its spare room", k)
			}
			was := copyOfTold(got)
			scribble(in)
			scribbleBody(msg.Body)
			if !sameTold(got, was) {
				t.Fatalf("%d: what was answered changed with what was handed in", k)
			}
			if again, e2 := do(made, m); !sameTold(again, was) || e2 != e {
				t.Fatalf("%d: the same, asked again, is answered otherwise", k)
			}
		}
		if at, ok := Next(roomy(made, id)); ok != (len(made) > 0) || at < 0 {
			t.Fatalf("Next: %d, %v: what is in the spare room plays a part", at, ok)
		}
	}
}

// 0.4: what is handed out has memory of its own, spare room too: what is written there is seen neither in what was handed in nor in what was handed out beside it.
func TestMemoryOfItsOwn(t *testing.T) {
	r := newRandom(9)
	for range 10000 {
		p := randomPolicy(r)
		made := randomList(r, p, 6)
		id := randomId(r, made)
		m := randomMsg(r, id)
		in, msg := roomy(made, id), roomyMsg(m)
		for k, do := range asks(id, p, randomTick(r)) {
			got, _ := do(in, msg)
			was := copyOfTold(got)
			scribble(got.rest)
			others, wasOthers := [][]api.Msg{got.again, got.dead, got.late}, [][]api.Msg{was.again, was.dead, was.late}
			for i, l := range others {
				if !slices.EqualFunc(others[i:], wasOthers[i:], sameMsgs) {
					t.Fatalf("%d: two lists of one answer share memory", k)
				}
				scribbleMsgs(l)
			}
			if !asMade(in, made, id) || !bodyAsMade(msg.Body, m.Body) {
				t.Fatalf("%d: an answer shares memory with what was handed in", k)
			}
		}
	}
}

// 0.4: messages whose bodies are one list come out with a list each, what goes again and what waits on too.
func TestOneBody(t *testing.T) {
	body := api.Datum{Kind: api.KList, List: []api.Datum{{Kind: api.KInt, Int: 5}}}
	l := []api.Sent{sent(1, 1, 3, 0), sent(2, 1, 9, 0), sent(3, 3, 3, 0), sent(4, 1, 3, 1), sent(5, 2, 2, 0), sent(6, 1, 9, 0)}
	for i := range l {
		l[i].Msg.Body = body
	}
	m := plain(9)
	m.Body = body
	for k, do := range asks(1, policy, 4) {
		a, _ := do(l, m)
		lists := map[*api.Datum]int{&body.List[0]: 1}
		for _, x := range slices.Concat(msgsOf(a.rest), a.again, a.dead, a.late) {
			lists[&x.Body.List[0]]++
		}
		for _, n := range lists {
			if n != 1 {
				t.Errorf("%d: one list stands in %d messages", k, n)
			}
		}
	}
}

// 0.3: two ways on from one list know nothing of each other.
func TestTwoWaysOn(t *testing.T) {
	l, _ := Send(nil, plain(1), policy, 0)
	x, _ := Send(l, plain(2), policy, 0)
	y, _ := Send(l, plain(3), policy, 0)
	n, _ := Nack(x, 1, 1)
	z, _ := Ack(x, 1)
	z, _ = Send(z, plain(4), policy, 0)
	for i, c := range []struct {
		l   []api.Sent
		ids []int64
		due int64
	}{{l, []int64{1}, 2}, {x, []int64{1, 2}, 2}, {y, []int64{1, 3}, 2}, {n, []int64{1, 2}, 1}, {z, []int64{2, 4}, 2}} {
		if !slices.Equal(idsOf(msgsOf(c.l)), c.ids) || c.l[0].Due != c.due {
			t.Error(i, show(c.l))
		}
	}
}

// 0.8: none at all is the same, nil or empty.
func TestNilAndEmpty(t *testing.T) {
	for k, do := range asks(1, policy, 4) {
		x, e := do(nil, plain(1))
		y, e2 := do(make([]api.Sent, 0, 3), plain(1))
		if !sameTold(x, y) || e != e2 {
			t.Error(k, x.show(), e, y.show(), e2)
		}
	}
}
