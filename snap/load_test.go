package snap

import (
	"bytes"
	"math"
	"slices"
	"strings"
	"testing"

	"conduit/api"
	"conduit/bus"
	"conduit/check"
)

// noState is the bytes of the first state of a plan without handlers, and of its text.
const noState = "\x00\x00\x00\x00\x00\x00\x00"

// P29.2: what is too short, or begins with other bytes.
func TestNoSnapshot(t *testing.T) {
	p := plan(t, "")
	b := Save(p, bus.New(p))
	for n := range 9 {
		if _, e := loadAsSaid(t, p, b[:n]); e != api.ErrForm {
			t.Errorf("%d bytes: %v", n, e)
		}
		if _, e := loadAsSaid(t, p, bytes.Repeat([]byte{0}, n)); e != api.ErrForm {
			t.Errorf("%d bytes: %v", n, e)
		}
	}
	for i := range 5 {
		for bit := range 8 {
			other := bytes.Clone(b)
			other[i] ^= 1 << bit
			if _, e := loadAsSaid(t, p, other); e != api.ErrForm {
				t.Errorf("% x: %v", other, e)
			}
			// Its sum is right.
			if _, e := loadAsSaid(t, p, append([]byte(nil), enclosedBy(string(other[:5]), noState)...)); e != api.ErrForm {
				t.Errorf("% x: %v", other, e)
			}
		}
	}
	if _, e := loadAsSaid(t, p, nil); e != api.ErrForm {
		t.Error(e)
	}
}

// enclosedBy is enclosed with another beginning, of five bytes.
func enclosedBy(begin, s string) []byte {
	b := enclosed([]byte(s))
	copy(b, begin)
	return slices.Concat(b[:len(b)-4], sumOf(b[:len(b)-4]))
}

func sumOf(b []byte) []byte {
	// The sum stands behind what it is of, whatever that begins with.
	x := chapterSum(b)
	return []byte{byte(x), byte(x >> 8), byte(x >> 16), byte(x >> 24)}
}

// chapterSum is CRC-32, bit by bit.
func chapterSum(b []byte) uint32 {
	sum := uint32(math.MaxUint32)
	for _, x := range b {
		for bit := range 8 {
			out := sum&1 ^ uint32(x)>>bit&1
			sum >>= 1
			if out == 1 {
				sum ^= 0xedb88320
			}
		}
	}
	return ^sum
}

// P29.2: nine bytes are enough to have a sum; without a text they are none.
func TestNineBytes(t *testing.T) {
	p := plan(t, "")
	b := enclosed(nil)
	if _, e := loadAsSaid(t, p, b); e != api.ErrForm || len(b) != 9 {
		t.Errorf("% x: %v", b, e)
	}
	b[8]++
	if _, e := loadAsSaid(t, p, b); e != api.ErrSum {
		t.Errorf("% x: %v", b, e)
	}
}

// P29.2: the sum is looked at ahead of all that it is of, in the order in which it stands.
func TestSum(t *testing.T) {
	p := plan(t, "")
	good := Save(p, bus.New(p))
	if !bytes.Equal(good[len(good)-4:], sumOf(good[:len(good)-4])) {
		t.Errorf("% x", good)
	}
	for _, s := range []string{noState, "", "\xff", "\x01", noState + "\x00"} {
		b := enclosed([]byte(s))
		for i := len(b) - 4; i < len(b); i++ {
			other := bytes.Clone(b)
			other[i]++
			if _, e := loadAsSaid(t, p, other); e != api.ErrSum {
				t.Errorf("% x: %v", other, e)
			}
		}
		slices.Reverse(b[len(b)-4:])
		if _, e := loadAsSaid(t, p, b); e != api.ErrSum {
			t.Errorf("% x: %v", b, e)
		}
	}
}

// P29.2: what is no text and state in that one form, and no more; whatever the text is, and whether the state is fit.
func TestForm(t *testing.T) {
	core, post := "\x00\x00\x00\x00\x00\x00", "\x00\x00\x00\x00\x00\x00"
	wrap := "\x00\x00\x00\x00\x00\x00\x00\x00"
	message := "\x00\x00\x00\x00\x00\x00\x01x\x00\x00"
	head := "\x00\x00\x00\x00\x00"
	ten := strings.Repeat("\xff", 9)
	p := plan(t, "")
	for s, want := range map[string]api.Errno{
		noState: api.OK, noState + "\x00": api.ErrForm, noState[1:]: api.ErrForm, "\x01" + noState: api.ErrOther, "\x01" + noState[1:]: api.ErrForm,
		// The text.
		"\x80\x00" + noState[1:]: api.ErrForm, "\x07" + noState: api.ErrForm, ten + "\x01" + noState: api.ErrForm, ten + "\x02": api.ErrForm, strings.Repeat("\xff", 8) + "\x7f": api.ErrForm, "\x02\xff\x00" + noState[1:]: api.ErrOther,
		// Numbers, in their fewest bytes, of 64 bits.
		"\x00\x80\x00\x00\x00\x00\x00\x00": api.ErrForm, "\x00\x80\x01\x00\x00\x00\x00\x00": api.OK, "\x00" + ten + "\x01\x00\x00\x00\x00\x00": api.ErrState, "\x00" + ten + "\x02\x00\x00\x00\x00\x00": api.ErrForm,
		"\x00\x01\x00\x00\x00\x00\x00": api.ErrState, "\x00\x00\x01\x00\x00\x00\x00": api.ErrState, "\x00\x00\x00\x02\x00\x00\x00": api.ErrState, "\x00\x00\x00\x80\x00\x00\x00\x00": api.ErrForm, "\x00\x00\x00\x00\x82\x00\x00\x00": api.ErrForm,
		// Lists.
		"\x00\x00\x00\x00\x00\x80\x00\x00": api.ErrForm, "\x00\x00\x00\x00\x00\x01\x00": api.ErrForm, "\x00\x00\x00\x00\x00\x01\x00\x00\x00\x00": api.ErrState, "\x00\x00\x00\x00\x02\x01\x02\x00\x00\x00": api.OK, "\x00\x00\x00\x00\x02\x01\x02\x00\x05\x00": api.ErrForm,
		"\x00\x00\x00\x00\x00" + ten + "\x01": api.ErrForm, "\x00\x00\x00\x00\x00" + strings.Repeat("\xff", 8) + "\x7f" + noState: api.ErrForm, "\x00\x00\x00\x00\x00\x00" + ten + "\x01": api.ErrForm, "\x00\x00\x00\x00\x00\x00\x80\x80\x80\x80\x10": api.ErrForm,
		// A post, and a bool that stands last.
		head + "\x00\x01" + core + post: api.ErrState, head + "\x00\x01" + core + post[1:]: api.ErrForm, head + "\x00\x01" + core + post + "\x00": api.ErrForm, head + "\x00\x01" + core + post[1:] + "\x01": api.ErrState, head + "\x00\x01" + core + post[1:] + "\x02": api.ErrForm,
		head + "\x00\x01" + "\x00\x00\x00\x00\x01\x00" + post: api.ErrState, head + "\x00\x01" + "\x00\x00\x00\x00\x02\x00" + post: api.ErrForm, head + "\x00\x01" + "\x00\x00\x00\x00\xff\x00" + post: api.ErrForm,
		// Values.
		head + "\x00\x01" + "\x00\x00\x06\x01\x00\x00\x00" + post: api.ErrState, head + "\x00\x01" + "\x00\x00\x06\x02\x00\x00\x00" + post: api.ErrForm, head + "\x00\x01" + "\x00\x00\x0e\x00\x00\x00" + post: api.ErrForm, head + "\x00\x01" + "\x00\x00\x00\x01\x08\x01\x00\x00\x00" + post: api.ErrState, head + "\x00\x01" + "\x00\x00\x00\x01\x08\x02\x00\x00\x00" + post: api.ErrForm,
		head + "\x00\x01" + "\x00\x00" + strings.Repeat("\x08\x01", 15) + "\x00\x00\x00\x00" + post: api.ErrState, head + "\x00\x01" + "\x00\x00" + strings.Repeat("\x08\x01", 16) + "\x00\x00\x00\x00" + post: api.ErrForm,
		// Wrappers and messages.
		head + "\x00\x01" + core + "\x01" + wrap + post[1:]: api.ErrState, head + "\x00\x01" + core + "\x01" + wrap[1:] + post[1:]: api.ErrForm,
		head + "\x00\x01" + core + "\x00\x01" + message + post[2:]: api.ErrState, head + "\x00\x01" + core + "\x00\x01" + message[1:] + post[2:]: api.ErrForm, head + "\x00\x01" + core + "\x00\x02" + message + post[2:]: api.ErrForm,
	} {
		if _, e := loadAsSaid(t, p, enclosed([]byte(s))); e != want {
			t.Errorf("% x: %v, not %v", s, e, want)
		}
	}
}

// P29.2: a form that is none is told ahead of another text, another text ahead of a state that is not fit.
func TestOrder(t *testing.T) {
	p, other := plan(t, "handler a = echo;"), plan(t, "handler a = echo inbox 63;")
	text, otherText := check.Write(p), check.Write(other)
	fit, unfit := bus.New(p), api.Bus{}
	for _, c := range []struct {
		b    []byte
		want api.Errno
	}{
		{enclosed(chapterState(text, fit)), api.OK},
		{enclosed(chapterState(text, unfit)), api.ErrState},
		{enclosed(chapterState(otherText, fit)), api.ErrOther},
		{enclosed(chapterState(otherText, unfit)), api.ErrOther},
		{enclosed(chapterState("", unfit)), api.ErrOther},
		{enclosed(chapterState(text+" ", fit)), api.ErrOther},
		{enclosed(chapterState("handler a = echo;", fit)), api.ErrOther},
		{enclosed(append(chapterState(text, fit), 0)), api.ErrForm},
		{enclosed(append(chapterState(otherText, fit), 0)), api.ErrForm},
		{enclosed(append(chapterState(otherText, unfit), 0)), api.ErrForm},
	} {
		if _, e := loadAsSaid(t, p, c.b); e != c.want {
			t.Errorf("%q: %v, not %v", c.b, e, c.want)
		}
		c.b[len(c.b)-1]++
		if _, e := loadAsSaid(t, p, c.b); e != api.ErrSum {
			t.Errorf("%q: %v", c.b, e)
		}
	}
}

// P29.2: a state that is fit with the plan is taken, right up to the bounds of what is; any other one is no state, but has the form.
func TestStates(t *testing.T) {
	p := plan(t, "handler a = store with limit 2 3 with breaker 2 4 with dedup 2 with buffer 2 5 with until 3 inbox 2; handler b = echo;")
	long := strings.Repeat("x", api.MaxBytes)
	good := api.Msg{Id: -1, Topic: long, Body: list(), At: api.MaxTick, Until: api.MaxTick, Reply: long, Corr: math.MinInt64, Prio: math.MinInt, Hops: 8}
	for i, do := range []func(st *api.Bus){
		func(*api.Bus) {},
		func(st *api.Bus) { st.Now, st.Next, st.Turn = api.MaxTick, 1<<60, 1 },
		func(st *api.Bus) {
			st.Asks = api.Asks{Next: 1 << 62, Wait: []api.Ask{{Corr: 1, Topic: "no name: #"}, {Corr: 1 << 62, Until: api.MaxTick}}}
		},
		func(st *api.Bus) {
			st.Posts[0].Inbox = api.Inbox{Msgs: []api.Msg{good, good}, Refused: 1 << 60, Dropped: 1 << 60}
		},
		func(st *api.Bus) { st.Posts[1].Held = slices.Repeat([]api.Msg{good}, 3); st.Posts[1].Closed = true },
		func(st *api.Bus) { st.Posts[0].Built.Wraps[3].Buffer = api.Buffer{Msgs: []api.Msg{good}, Since: 7} },
		func(st *api.Bus) { st.Posts[0].Built.Wraps[2].Dedup.Ids = []int64{math.MinInt64, math.MaxInt64} },
		func(st *api.Bus) {
			st.Posts[0].Built.Core = api.CoreState{Count: 1 << 62, Acked: 1 << 62, Last: good.Body, List: []api.Datum{number(1), number(2)}, Closed: true, Until: api.MaxTick}
		},
	} {
		st := bus.New(p)
		do(&st)
		if got, e := loadAsSaid(t, p, saveAsSaid(t, p, st)); e != api.OK || !same(got, st) {
			t.Errorf("%d: %v: %v", i, e, got)
		}
	}
	for i, do := range []func(st *api.Bus){
		func(st *api.Bus) { st.Now = -1 },
		func(st *api.Bus) { st.Now = api.MaxTick + 1 },
		func(st *api.Bus) { st.Next = 1<<60 + 1 },
		func(st *api.Bus) { st.Turn = 2 },
		func(st *api.Bus) { st.Posts = st.Posts[:1] },
		func(st *api.Bus) { st.Posts = append(st.Posts, st.Posts[1]) },
		func(st *api.Bus) { st.Posts[0], st.Posts[1] = st.Posts[1], st.Posts[0] },
		func(st *api.Bus) { st.Asks = api.Asks{Next: 1, Wait: []api.Ask{{Corr: 2}}} },
		func(st *api.Bus) { st.Posts[0].Inbox.Msgs = []api.Msg{good, good, good} },
		func(st *api.Bus) { st.Posts[0].Inbox.Refused = -1 },
		func(st *api.Bus) { st.Posts[0].Built.Wraps[0].Until = 1 },
		func(st *api.Bus) { st.Posts[0].Built.Wraps[1].Breaker.Fails = 3 },
		func(st *api.Bus) { st.Posts[0].Built.Wraps[2].Dedup.Ids = []int64{1, 1} },
		func(st *api.Bus) { st.Posts[0].Built.Core.List = []api.Datum{number(1), number(1)} },
		func(st *api.Bus) { st.Posts[0].Built.Core.Until = -1 },
		func(st *api.Bus) { m := good; m.Topic += "x"; st.Posts[1].Held = []api.Msg{m} },
		func(st *api.Bus) { m := good; m.Reply += "x"; st.Posts[1].Held = []api.Msg{m} },
		func(st *api.Bus) { m := good; m.Topic = "#"; st.Posts[1].Inbox.Msgs = []api.Msg{m} },
		func(st *api.Bus) { m := good; m.Hops = 9; st.Posts[1].Inbox.Msgs = []api.Msg{m} },
		func(st *api.Bus) { m := good; m.At = -1; st.Posts[0].Built.Wraps[3].Buffer.Msgs = []api.Msg{m} },
	} {
		st := bus.New(p)
		do(&st)
		if _, e := loadAsSaid(t, p, saveAsSaid(t, p, st)); e != api.ErrState {
			t.Errorf("%d: %v", i, e)
		}
	}
}

// P29.2: bytes that are turned, and those among them whose sum is right.
func TestTurned(t *testing.T) {
	r := newRandom(4)
	told := map[api.Errno]int{}
	for range 3000 {
		p := randomPlan(t, r)
		b := Save(p, randomState(t, r, p))
		loadAsSaid(t, p, turned(r, b))
		_, e := loadAsSaid(t, p, enclosed(turned(r, inner(b))))
		told[e]++
		loadAsSaid(t, randomPlan(t, r), b)
	}
	for _, e := range []api.Errno{api.OK, api.ErrForm, api.ErrOther, api.ErrState} {
		if told[e] < 50 {
			t.Errorf("%v is seldom: %v", e, told)
		}
	}
}

// P29.2: how many parts a list has is only what the bytes say: to say so is no more work than to have them.
func TestManyParts(t *testing.T) {
	p := plan(t, "")
	for _, count := range []string{"\xff\xff\xff\xff\x07", strings.Repeat("\xff", 8) + "\x7f"} {
		for _, s := range []string{"", "\x00", "\x00\x00\x01\x00\x00\x00", "\x00\x00\x00" /* of a core */} {
			b := enclosed([]byte("\x00\x00\x00\x00\x00\x00" + s + count + strings.Repeat("\x00", 3)))
			if _, e := loadAsSaid(t, p, b); e != api.ErrForm {
				t.Errorf("% x: %v", b, e)
			}
		}
	}
}
