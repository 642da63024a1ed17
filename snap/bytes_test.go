package snap

import (
	"bytes"
	"testing"

	"conduit/api"
	"conduit/bus"
	"conduit/check"
	"conduit/wire"
)

// P29.1: a snapshot, field by field; no two of them have the same bytes.
func TestSaveFields(t *testing.T) {
	m := api.Msg{Id: 1, At: 2, Until: 3, Corr: 4, Prio: -1, Hops: 5, Topic: "t", Reply: "re", Body: number(300)}
	message := "\x02\x04\x06\x08\x01\x0a\x01t\x02re\x01\xd8\x04"
	wraps := []api.WrapState{
		{Limit: api.Limit{Level: 6, Last: 7}},
		{Breaker: api.Breaker{Fails: 8, Until: 9}},
		{Dedup: api.Dedup{Ids: []int64{-10, 11}}},
		{Buffer: api.Buffer{Msgs: []api.Msg{m}, Since: 12}},
		{Until: 13},
	}
	wrapped := "\x05" + "\x0c\x0e\x00\x00\x00\x00\x00\x00" + "\x00\x00\x10\x12\x00\x00\x00\x00" + "\x00\x00\x00\x00\x02\x13\x16\x00\x00\x00" + "\x00\x00\x00\x00\x00\x01" + message + "\x18\x00" + "\x00\x00\x00\x00\x00\x00\x00\x1a"
	post := api.Post{
		Built:  api.Built{Core: api.CoreState{Count: 14, Acked: 15, Last: read(t, `"a"`), List: []api.Datum{number(16), read(t, "{}")}, Closed: true, Until: 17}, Wraps: wraps},
		Inbox:  api.Inbox{Msgs: []api.Msg{m, m}, Refused: 18, Dropped: 19},
		Held:   []api.Msg{m},
		Closed: true,
	}
	posted := "\x1c\x1e\x04\x01a\x02\x01\x20\x0d\x01\x22" + wrapped + "\x02" + message + message + "\x24\x26" + "\x01" + message + "\x01"
	p := plan(t, "")
	st := api.Bus{Now: 20, Next: 21, Turn: 22, Asks: api.Asks{Next: 23, Wait: []api.Ask{{Corr: 24, Until: 25, Topic: "q"}, {}}}, Posts: []api.Post{post, {}}}
	want := "\x00" + "\x28\x2a\x2c" + "\x2e" + "\x02" + "\x30\x32\x01q" + "\x00\x00\x00" + "\x02" + posted + "\x00\x00\x00\x00\x00\x00\x00\x00\x00\x00\x00\x00"
	b := saveAsSaid(t, p, st)
	if string(inner(b)) != want {
		t.Errorf("% x, not\n% x", inner(b), want)
	}
	if _, e := loadAsSaid(t, p, b); e != api.ErrState {
		t.Error(e)
	}
}

// P29.1: the plan's text stands there whole, and the sum is that of all bytes ahead.
func TestSavePlan(t *testing.T) {
	p := plan(t, `handler a = count; route "x" -> a;`)
	b := saveAsSaid(t, p, bus.New(p))
	text := check.Write(p)
	if !bytes.HasPrefix(b, append([]byte{'C', 'N', 'D', 'S', 1, byte(len(text))}, text...)) || len(text) < 30 {
		t.Errorf("%q", b)
	}
	if !bytes.Equal(b, enclosed(inner(b))) {
		t.Errorf("% x", b)
	}
}

// P29.1: a message is what stands in its frame; one whose frame is none too.
func TestSaveMessages(t *testing.T) {
	r := newRandom(1)
	p := plan(t, `handler a = count;`)
	empty := len(saveAsSaid(t, p, bus.New(p)))
	for range 2000 {
		l := randomMsgs(t, r, 1)
		if len(l) == 0 {
			continue
		}
		st := bus.New(p)
		st.Posts[0].Held = l
		b := saveAsSaid(t, p, st)
		if l[0].Id < 0 || l[0].Corr < 0 {
			continue
		}
		frame := wire.Encode(l[0])
		// Two bytes and the length stand ahead of the body, two behind it.
		if body := frame[3 : len(frame)-2]; len(b) != empty+len(body) || !bytes.Contains(b, body) {
			t.Fatalf("%v: % x", l[0], b)
		}
	}
}

// P29.1, P29.2: of any fit state.
func TestAnyStates(t *testing.T) {
	r := newRandom(2)
	for range 1500 {
		p := randomPlan(t, r)
		st := randomState(t, r, p)
		if got, e := loadAsSaid(t, p, saveAsSaid(t, p, st)); e != api.OK || !same(got, st) {
			t.Fatalf("%s%.1000v: %.1000v, %v", check.Write(p), st, got, e)
		}
	}
}

// P29.1: whatever stands in a message's Id and Corr, and in a state's numbers, is written.
func TestUnfitStates(t *testing.T) {
	r := newRandom(3)
	for range 1500 {
		p := pick(r, api.Plan{}, plan(t, "handler a = echo;"), plan(t, "handler a = echo with buffer 2 3; handler b = store;"))
		b := saveAsSaid(t, p, randomUnfit(t, r))
		if _, e := loadAsSaid(t, p, b); e != api.OK && e != api.ErrState {
			t.Fatalf("% x: %v", b, e)
		}
	}
}
