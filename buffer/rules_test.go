package buffer

import (
	"math"
	"slices"
	"testing"

	"conduit/api"
	"conduit/value"
)

// Every call ends and none panics, at states and numbers of which nothing else is promised too.
func TestAnyNumbers(t *testing.T) {
	numbers := []int64{math.MinInt64, math.MinInt64 + 1, -1, 0, 1, 2, mostHeld + 1, api.MaxTick + 1, math.MaxInt64}
	odd := api.Msg{Topic: "#", Body: api.Datum{Kind: -5, List: make([]api.Datum, 3)}, At: -1, Hops: -7}
	for _, since := range numbers {
		for _, st := range []api.Buffer{{}, of(0), of(0, 1, 2, 3), {Msgs: []api.Msg{odd, odd}}, {Msgs: upTo(mostHeld + 5)}} {
			st.Since = since
			Flush(st)
			for _, x := range numbers {
				Next(st, x)
				for _, now := range numbers {
					Tick(st, x, now)
				}
				Put(st, x, since, odd)
			}
		}
	}
}

// roomyBody is a value in memory with spare room behind its lists, where others stand.
func roomyBody(d api.Datum) api.Datum {
	var l []api.Datum
	for _, p := range d.List {
		l = append(l, roomyBody(p))
	}
	d.List = append(slices.Clip(l), api.Datum{Kind: api.KInt, Int: 77})[:len(l)]
	return d
}

// roomyMsgs is messages in memory with spare room behind, where another one stands.
func roomyMsgs(l []api.Msg) (out []api.Msg) {
	for _, m := range l {
		m.Body = roomyBody(m.Body)
		out = append(out, m)
	}
	return append(slices.Clip(out), plain(77))[:len(l)]
}

func roomy(st api.Buffer) api.Buffer {
	return api.Buffer{Msgs: roomyMsgs(st.Msgs), Since: st.Since}
}

// asMade tells whether nothing was written there since, in the spare room neither.
func asMade(got, made []api.Msg) bool {
	bodies := func(x, y api.Msg) bool { return bodyAsMade(x.Body, y.Body) }
	return sameMsgs(got, made) && slices.EqualFunc(got, made, bodies) && sameMsg(got[:len(got)+1][len(got)], plain(77))
}

func bodyAsMade(got, made api.Datum) bool {
	behind := got.List[:len(got.List)+1][len(got.List)]
	return behind.Int == 77 && slices.EqualFunc(got.List, made.List, bodyAsMade)
}

// scribble writes over messages, their bodies and all spare room.
func scribble(l []api.Msg) {
	l = l[:cap(l)]
	for i := range l {
		scribbleBody(l[i].Body.List)
		l[i] = plain(-12345)
	}
}

func scribbleBody(l []api.Datum) {
	l = l[:cap(l)]
	for i := range l {
		scribbleBody(l[i].List)
		l[i] = api.Datum{Kind: -1, Text: "scribbled"}
	}
}

// calls is the three calls that give a state and messages.
func calls(a, b, now int64, m api.Msg) []func(api.Buffer) (api.Buffer, []api.Msg) {
	return []func(api.Buffer) (api.Buffer, []api.Msg){
		func(st api.Buffer) (api.Buffer, []api.Msg) { return Put(st, a, now, m) },
		func(st api.Buffer) (api.Buffer, []api.Msg) { return Tick(st, b, now) },
		Flush,
	}
}

func copyOf(l []api.Msg) (out []api.Msg) {
	for _, m := range l {
		m.Body = value.Copy(m.Body)
		out = append(out, m)
	}
	return out
}

// 0.3, 0.4, 0.8: what is handed in stays as it is, spare room too, plays no part behind its end, and is not kept; what was answered does not hang on it, nor another answer on that.
func TestHandedIn(t *testing.T) {
	r := newRandom(6)
	for range 10000 {
		a, b := randomMany(r), randomTicks(r)
		st, m := randomState(r, a), randomMsg(r)
		now := randomNow(r, st, b)
		asked := calls(a, b, now, m)
		for k, ask := range calls(a, b, now, api.Msg{}) {
			in, msg := roomy(st), roomyMsgs([]api.Msg{m})
			if k == 0 {
				ask = calls(a, b, now, msg[0])[0]
			}
			got, out := ask(in)
			if !asMade(in.Msgs, st.Msgs) || !asMade(msg, []api.Msg{m}) || in.Since != st.Since {
				t.Fatal("what was handed in has changed, or its spare room")
			}
			was, wasOut := api.Buffer{Msgs: copyOf(got.Msgs), Since: got.Since}, copyOf(out)
			scribble(in.Msgs)
			scribble(msg)
			if !same(got, was) || !sameMsgs(out, wasOut) {
				t.Fatal("what was answered changed with what was handed in")
			}
			if again, out := asked[k](st); !same(again, was) || !sameMsgs(out, wasOut) {
				t.Fatal("the same, asked again, is answered otherwise")
			}
		}
	}
}

// 0.4: what is handed out has memory of its own, spare room too: what is written there is not seen in what was handed in.
func TestMemoryOfItsOwn(t *testing.T) {
	r := newRandom(7)
	for range 10000 {
		a, b := randomMany(r), randomTicks(r)
		st, m := randomState(r, a), randomMsg(r)
		in, msg := roomy(st), roomyMsgs([]api.Msg{m})
		for _, ask := range calls(a, b, randomNow(r, st, b), msg[0]) {
			got, out := ask(in)
			scribble(got.Msgs)
			scribble(out)
			if !asMade(in.Msgs, st.Msgs) || !asMade(msg, []api.Msg{m}) {
				t.Fatal("an answer shares memory with what was handed in")
			}
		}
	}
}

// The chapter's Ways: no two states have one list: two ways on from one state know nothing of each other.
func TestTwoWaysOn(t *testing.T) {
	st, _ := Put(api.Buffer{}, 9, 1, plain(1))
	x, _ := Put(st, 9, 2, plain(2))
	y, _ := Put(st, 9, 3, plain(3))
	z, _ := Tick(st, 9, 2)
	scribble(z.Msgs)
	if !same(st, of(1, 1)) || !same(x, of(1, 1, 2)) || !same(y, of(1, 1, 3)) {
		t.Error(show(st), show(x), show(y))
	}
}

// 0.8: nothing held is the same, nil or empty.
func TestNilAndEmpty(t *testing.T) {
	for _, a := range []int64{1, 2, mostHeld} {
		for k, ask := range calls(a, 1, 5, plain(1)) {
			x, xOut := ask(api.Buffer{})
			y, yOut := ask(api.Buffer{Msgs: make([]api.Msg, 0, 3)})
			if !same(x, y) || !sameMsgs(xOut, yOut) {
				t.Error(k, show(x), show(y))
			}
		}
	}
	if at, ok := Next(api.Buffer{Msgs: make([]api.Msg, 0, 3)}, 5); at != 0 || ok {
		t.Error(at, ok)
	}
}

// FuzzCalls looks for rows of calls in which a message is lost, comes twice or comes at another time than it should.
func FuzzCalls(f *testing.F) {
	f.Add(int64(3), int64(10), []byte{0, 6, 1, 0, 0, 0})
	f.Add(int64(1), int64(0), []byte{0, 0, 2})
	f.Add(int64(1000), int64(1), []byte{0, 3, 4, 5, 1, 2, 0, 3})
	f.Fuzz(func(t *testing.T, a, b int64, l []byte) {
		var row []call
		for _, c := range l {
			row = append(row, call{int(c % 3), int64(c / 3)})
		}
		if a >= 1 && a <= mostHeld && b >= 0 && b <= mostTicks {
			nothingLost(t, a, b, row, numbered)
		}
	})
}
