package replay

import (
	"bytes"
	"encoding/hex"
	"math"
	"strings"
	"testing"

	"conduit/api"
)

// hexed is bytes that are written as hex digits, with blanks between.
func hexed(t *testing.T, s string) []byte {
	t.Helper()
	b, err := hex.DecodeString(strings.ReplaceAll(s, " ", ""))
	if err != nil {
		t.Fatal(err)
	}
	return b
}

// P28.1: each kind of step, byte by byte.
func TestStep(t *testing.T) {
	m := api.Msg{Topic: "t", Body: number(300), Until: 3, Reply: "rs", Corr: 4, Prio: -1}
	for _, c := range []struct {
		s    api.Step
		want string
	}{
		{api.Step{Kind: api.StPublish, Msg: m}, "01 01 0174 01d804 06 027273 08 01"},
		{api.Step{Kind: api.StPublish, Msg: api.Msg{Topic: "t"}}, "01 01 0174 00 00 00 00 00"},
		{api.Step{Kind: api.StAsk, Msg: m, N: 64}, "01 02 0174 01d804 06 027273 08 01 8001"},
		{api.Step{Kind: api.StAsk, Msg: api.Msg{Topic: "t", Reply: "r"}}, "01 02 0174 00 00 0172 00 00 00"},
		{working(0), "01 03 00"},
		{working(api.MaxTick), "01 03 808080808040"},
		{ticking(5), "01 04 0a"},
		{api.Step{Kind: api.StCall, Handler: 2, Cap: api.CapSave, Arg: text("a"), Deep: true}, "01 05 04 0c 040161 01"},
		{api.Step{Kind: api.StCall}, "01 05 00 00 00 00"},
		{api.Step{Kind: api.StCall, Handler: -1, Cap: math.MinInt, Arg: list()}, "01 05 01 ffffffffffffffffff01 0800 00"},
		{closing(), "01 06"},
	} {
		if got, want := Step(c.s), hexed(t, c.want); !bytes.Equal(got, want) || !bytes.Equal(want, chapterStep(c.s)) {
			t.Errorf("%v: % x, not % x", c.s, got, want)
		}
	}
}

// P28.1: each field of an event, byte by byte.
func TestEvent(t *testing.T) {
	for _, c := range []struct {
		e    api.Event
		want string
	}{
		{api.Event{}, "02 00 00 00 00 00 00 00 00 00 00"},
		{api.Event{Kind: api.EvDone, At: 1, Id: 2, Handler: 3, Corr: 4, Result: api.Result{Err: api.ErrPanic, Code: 6, Panic: api.Panic{Kind: 7, Num: 8}, Has: true, Body: text("a")}}, "02 07 02 04 06 08 6e 0c 07 10 01 040161"},
		{api.Event{Kind: api.EvAnswer, Corr: 1, Handler: -1, Result: api.Result{Has: true}}, "02 09 00 00 01 02 00 00 00 00 01 00"},
		{api.Event{Kind: 300, At: -1, Id: math.MinInt64, Corr: -64, Result: api.Result{Err: 128, Code: math.MaxInt64, Panic: api.Panic{Kind: math.MaxInt, Num: -2}}}, "02 ac02 01 ffffffffffffffffff01 00 7f 8001 feffffffffffffffff01 ffffffffffffffff7f 03 00"},
	} {
		if got, want := Event(c.e), hexed(t, c.want); !bytes.Equal(got, want) || !bytes.Equal(want, chapterEvent(c.e)) {
			t.Errorf("%v: % x, not % x", c.e, got, want)
		}
	}
}

// P28.1: any step, any event; fields that a kind of step does not have are not written, nor is a body that is none.
func TestAnyBytes(t *testing.T) {
	r := newRandom(1)
	for range 20000 {
		s, e := randomStep(t, r), randomEvent(t, r)
		want := chapterStep(s)
		if got := Step(s); !bytes.Equal(got, want) {
			t.Fatalf("%v: % x, not % x", s, got, want)
		}
		if got := Step(filledUp(s)); !bytes.Equal(got, want) {
			t.Fatalf("%v: % x, not % x", filledUp(s), got, want)
		}
		want = chapterEvent(e)
		if got := Event(e); !bytes.Equal(got, want) {
			t.Fatalf("%v: % x, not % x", e, got, want)
		}
		if e.Result.Has {
			continue
		}
		e.Result.Body = text("spare")
		if got := Event(e); !bytes.Equal(got, want) {
			t.Fatalf("%v: % x, not % x", e, got, want)
		}
	}
}

// P28.1: records that no journal takes are written, too.
func TestLongBytes(t *testing.T) {
	long := strings.Repeat("x", api.MaxBytes)
	s := publishing("t", list(text(long), text(long)))
	if got := Step(s); !bytes.Equal(got, chapterStep(s)) || len(got) < 2*api.MaxBytes {
		t.Error(len(got))
	}
	e := api.Event{Kind: api.EvDone, Result: api.Result{Has: true, Body: s.Msg.Body}}
	if got := Event(e); !bytes.Equal(got, chapterEvent(e)) || len(got) < 2*api.MaxBytes {
		t.Error(len(got))
	}
}
