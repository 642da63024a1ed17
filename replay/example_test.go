package replay

import (
	"bytes"
	"testing"

	"conduit/api"
)

// The chapter's example 1.
func TestExampleBytes(t *testing.T) {
	if b := Event(api.Event{Kind: api.EvPublished, At: 0, Id: 1, Handler: -1}); !bytes.Equal(b, []byte{2, 1, 0, 2, 1, 0, 0, 0, 0, 0, 0}) {
		t.Errorf("% x", b)
	}
	if b := Step(working(3)); !bytes.Equal(b, []byte{1, 3, 6}) {
		t.Errorf("% x", b)
	}
}

// The chapter's example 2.
func TestExamplePlay(t *testing.T) {
	b, e := Record(plan(t, `handler a = count; route "x" -> a;`), []api.Step{publishing("x", number(5)), working(3)})
	if e != api.OK {
		t.Fatal(e)
	}
	if d, e := Play(plan(t, `handler a = echo; route "x" -> a;`), b); d != (api.Diff{Is: true, Step: -1, Event: 0}) || e != api.OK {
		t.Error(d, e)
	}
}

// The ninth of the document's examples of the whole: cut off in the midst of an event, and over another plan.
func TestExampleOfTheWhole(t *testing.T) {
	p := plan(t, `handler a = count; route "x" -> a;`)
	b, _ := Record(p, []api.Step{publishing("x", number(5)), working(1), ticking(2), publishing("x", number(6))})
	cut := b[:len(b)-3]
	if x := toldOf(cut); x.e != api.OK || len(x.steps) != 4 || len(x.events) != 4 || len(x.events[0]) != 2 || len(x.events[1]) != 1 || len(x.events[2]) != 0 || len(x.events[3]) != 1 {
		t.Error(x)
	}
	if d, e := Play(p, cut); d != (api.Diff{Is: true, Step: 3, Event: 1}) || e != api.OK {
		t.Error(d, e)
	}
	if d, e := Play(plan(t, `handler b = count; route "x" -> b;`), cut); d != (api.Diff{Is: true, Step: -1}) || e != api.OK {
		t.Error(d, e)
	}
}
