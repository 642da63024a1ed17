package queue

import (
	"math"
	"slices"
	"testing"

	"conduit/api"
	"conduit/value"
)

// Every call ends and none panics, at inboxes and numbers of which nothing else is promised too.
func TestAnyNumbers(t *testing.T) {
	numbers := []int{math.MinInt, math.MinInt + 1, -1, 0, 1, 2, api.MaxInbox + 1, math.MaxInt}
	odd := api.Msg{Topic: "#", Body: api.Datum{Kind: -5, List: make([]api.Datum, 3)}, At: -1, Until: -4, Hops: -7}
	for _, n := range numbers {
		odd.Prio = n
		for _, q := range []api.Inbox{{}, of(0), of(1, 2, 3), {Msgs: []api.Msg{odd, odd}}, of(make([]int, api.MaxInbox+5)...)} {
			q.Refused, q.Dropped = int64(n), int64(n)
			Take(q)
			Late(q, int64(n))
			for _, room := range numbers {
				for _, drop := range numbers {
					Put(q, room, drop, odd)
				}
			}
		}
	}
}

// Where there is no room at all, what is put goes or is refused.
func TestNoRoom(t *testing.T) {
	for _, room := range []int{math.MinInt, -1, 0} {
		for drop := -1; drop < 4; drop++ {
			putAsSaid(t, api.Inbox{}, room, drop, plain(1, 5))
		}
	}
}

// roomyBody is a value in memory with spare room behind its lists, where others stand.
func roomyBody(d api.Datum) api.Datum {
	var l []api.Datum
	for _, p := range d.List {
		l = append(l, roomyBody(p))
	}
	d.List = append(slices.Clip(l), api.Datum{Kind: api.KInt, Int: 77})[:len(l)]
	return d
}

// roomyMsgs is messages in memory with spare room behind, where another one stands.
func roomyMsgs(l []api.Msg) (out []api.Msg) {
	for _, m := range l {
		m.Body = roomyBody(m.Body)
		out = append(out, m)
	}
	return append(slices.Clip(out), plain(77, 7))[:len(l)]
}

func roomy(q api.Inbox) api.Inbox {
	q.Msgs = roomyMsgs(q.Msgs)
	return q
}

// asMade tells whether nothing was written there since, in the spare room neither.
func asMade(got, made []api.Msg) bool {
	bodies := func(x, y api.Msg) bool { return bodyAsMade(x.Body, y.Body) }
	return sameMsgs(got, made) && slices.EqualFunc(got, made, bodies) && sameMsg(got[:len(got)+1][len(got)], plain(77, 7))
}

func bodyAsMade(got, made api.Datum) bool {
	behind := got.List[:len(got.List)+1][len(got.List)]
	return behind.Int == 77 && slices.EqualFunc(got.List, made.List, bodyAsMade)
}

// scribble writes over messages, their bodies and all spare room.
func scribble(l []api.Msg) {
	l = l[:cap(l)]
	for i := range l {
		scribbleBody(l[i].Body.List)
		l[i] = plain(-12345, 1)
	}
}

func scribbleBody(l []api.Datum) {
	l = l[:cap(l)]
	for i := range l {
		scribbleBody(l[i].List)
		l[i] = api.Datum{Kind: -1, Text: "scribbled"}
	}
}

// ask is one of the three calls; what it gives beside the inbox is a list of messages.
type ask func(q api.Inbox, m api.Msg) (api.Inbox, []api.Msg)

func asks(room int, now int64) (l []ask) {
	for drop := range 3 {
		l = append(l, func(q api.Inbox, m api.Msg) (api.Inbox, []api.Msg) {
			x, gone, _, _ := Put(q, room, drop, m)
			return x, []api.Msg{gone}
		})
	}
	take := func(q api.Inbox, _ api.Msg) (api.Inbox, []api.Msg) {
		x, m, _ := Take(q)
		return x, []api.Msg{m}
	}
	late := func(q api.Inbox, _ api.Msg) (api.Inbox, []api.Msg) { return Late(q, now) }
	return append(l, take, late)
}

func copyOf(l []api.Msg) (out []api.Msg) {
	for _, m := range l {
		m.Body = value.Copy(m.Body)
		out = append(out, m)
	}
	return out
}

// 0.3, 0.4, 0.8: what is handed in stays as it is, spare room too, plays no part behind its end, and is not kept; what was answered does not hang on it.
func TestHandedIn(t *testing.T) {
	r := newRandom(9)
	for range 10000 {
		most := 1 + r.IntN(6)
		made, m := randomInbox(r, most), randomMsg(r)
		for _, do := range asks(most, randomTick(r)) {
			in, msg := roomy(made), roomyMsgs([]api.Msg{m})
			got, out := do(in, msg[0])
			if !asMade(in.Msgs, made.Msgs) || !asMade(msg, []api.Msg{m}) {
				t.Fatal("what was handed in has changed, or its spare room")
			}
			was, wasOut := api.Inbox{Msgs: copyOf(got.Msgs), Refused: got.Refused, Dropped: got.Dropped}, copyOf(out)
			scribble(in.Msgs)
			scribble(msg)
			if !same(got, was) || !sameMsgs(out, wasOut) {
				t.Fatal("what was answered changed with what was handed in")
			}
			if again, out := do(made, m); !same(again, was) || !sameMsgs(out, wasOut) {
				t.Fatal("the same, asked again, is answered otherwise")
			}
		}
	}
}

// 0.4: what is handed out has memory of its own, spare room too: what is written there is seen neither in what was handed in nor in what was handed out beside it.
func TestMemoryOfItsOwn(t *testing.T) {
	r := newRandom(10)
	for range 10000 {
		most := 1 + r.IntN(6)
		made, m := randomInbox(r, most), randomMsg(r)
		in, msg := roomy(made), roomyMsgs([]api.Msg{m})
		for _, do := range asks(most, randomTick(r)) {
			got, out := do(in, msg[0])
			wasOut := copyOf(out)
			scribble(got.Msgs)
			if !sameMsgs(out, wasOut) {
				t.Fatal("two lists of one answer share memory")
			}
			scribble(out)
			if !asMade(in.Msgs, made.Msgs) || !asMade(msg, []api.Msg{m}) {
				t.Fatal("an answer shares memory with what was handed in")
			}
		}
	}
}

// 0.4: messages whose bodies are one list come out with a list each.
func TestOneBody(t *testing.T) {
	body := api.Datum{Kind: api.KList, List: []api.Datum{{Kind: api.KInt, Int: 5}}}
	m := api.Msg{Topic: "t", Until: 3, Body: body}
	stays := m
	stays.Until = 9
	for k, do := range asks(4, 5) {
		q, out := do(api.Inbox{Msgs: []api.Msg{m, stays, m, stays}}, m)
		lists := map[*api.Datum]int{&body.List[0]: 1}
		for _, x := range slices.Concat(q.Msgs, out) {
			if len(x.Body.List) > 0 {
				lists[&x.Body.List[0]]++
			}
		}
		for _, n := range lists {
			if n != 1 {
				t.Errorf("%d: one list stands in %d messages", k, n)
			}
		}
	}
}

// 0.3: two ways on from one inbox know nothing of each other.
func TestTwoWaysOn(t *testing.T) {
	q := put(api.Inbox{}, 9, api.DropNew, plain(1, 0)).q
	x := put(q, 9, api.DropNew, plain(2, 0)).q
	y := put(q, 9, api.DropNew, plain(3, 0)).q
	z, _, _ := Take(x)
	z = put(z, 9, api.DropNew, plain(4, 0)).q
	for i, c := range []struct {
		q   api.Inbox
		ids []int64
	}{{q, []int64{1}}, {x, []int64{1, 2}}, {y, []int64{1, 3}}, {z, []int64{2, 4}}} {
		if !slices.Equal(idsOf(c.q.Msgs), c.ids) {
			t.Error(i, show(c.q))
		}
	}
}

// 0.8: an inbox without messages is the same, nil or empty.
func TestNilAndEmpty(t *testing.T) {
	for k, do := range asks(1, 5) {
		x, xOut := do(api.Inbox{Refused: 3}, plain(1, 1))
		y, yOut := do(api.Inbox{Msgs: make([]api.Msg, 0, 3), Refused: 3}, plain(1, 1))
		if !same(x, y) || !sameMsgs(xOut, yOut) {
			t.Error(k, show(x), show(y))
		}
	}
}
