package replay

import (
	"slices"
	"testing"

	"conduit/api"
	"conduit/check"
)

// P28.4: the first difference, of the text, of an event, of one that stands on one side alone.
func TestPlay(t *testing.T) {
	p := plan(t, `handler a = count; handler b = echo; route "x" -> a; route "y" -> b;`)
	l := []api.Step{publishing("x", number(5)), publishing("y", read(t, "f7ff8000000000001")), ticking(2), working(5), {Kind: api.StCall, Handler: 7}, working(1)}
	made := chapterRecords(p, l)
	// Records: 0 the plan; 1 step 0, 2 and 3 its events; 4 step 1, 5 and 6; 7 step 2; 8 step 3, 9 and 10; 11 step 4, 12; 13 step 5.
	if len(made) != 14 {
		t.Fatal(len(made))
	}
	other := func(change func(e *api.Event)) func(x [][]byte) [][]byte {
		return func(x [][]byte) [][]byte {
			e, _ := eventIn(x[10])
			change(&e)
			x[10] = Event(e)
			return x
		}
	}
	is := func(step, event int) api.Diff { return api.Diff{Is: true, Step: step, Event: event} }
	for name, c := range map[string]struct {
		change func(x [][]byte) [][]byte
		want   api.Diff
	}{
		"none":              {func(x [][]byte) [][]byte { return x }, api.Diff{}},
		"text":              {func(x [][]byte) [][]byte { x[0] = planRecord(check.Write(p) + " "); return x }, is(-1, 0)},
		"no text":           {func(x [][]byte) [][]byte { x[0] = planRecord(""); return x }, is(-1, 0)},
		"text and event":    {func(x [][]byte) [][]byte { x[0], x[2] = planRecord("p"), x[3]; return x }, is(-1, 0)},
		"kind":              {other(func(e *api.Event) { e.Kind = api.EvLate }), is(3, 1)},
		"at":                {other(func(e *api.Event) { e.At++ }), is(3, 1)},
		"id":                {other(func(e *api.Event) { e.Id++ }), is(3, 1)},
		"handler":           {other(func(e *api.Event) { e.Handler = 0 }), is(3, 1)},
		"corr":              {other(func(e *api.Event) { e.Corr++ }), is(3, 1)},
		"err":               {other(func(e *api.Event) { e.Result.Err = api.ErrLate }), is(3, 1)},
		"code":              {other(func(e *api.Event) { e.Result.Code++ }), is(3, 1)},
		"panic":             {other(func(e *api.Event) { e.Result.Panic.Kind++ }), is(3, 1)},
		"num":               {other(func(e *api.Event) { e.Result.Panic.Num++ }), is(3, 1)},
		"has":               {other(func(e *api.Event) { e.Result.Has, e.Result.Body = false, api.Datum{} }), is(3, 1)},
		"body":              {other(func(e *api.Event) { e.Result.Body.Bits++ }), is(3, 1)},
		"first event":       {func(x [][]byte) [][]byte { x[2] = x[3]; return x }, is(0, 0)},
		"first of two":      {func(x [][]byte) [][]byte { x[3], x[12] = x[2], x[2]; return x }, is(0, 1)},
		"event is missing":  {func(x [][]byte) [][]byte { return slices.Delete(x, 6, 7) }, is(1, 1)},
		"events missing":    {func(x [][]byte) [][]byte { return slices.Delete(x, 9, 11) }, is(3, 0)},
		"one too many":      {func(x [][]byte) [][]byte { return slices.Insert(x, 8, x[2]) }, is(2, 0)},
		"one more behind":   {func(x [][]byte) [][]byte { return slices.Insert(x, 11, x[10]) }, is(3, 2)},
		"events exchanged":  {func(x [][]byte) [][]byte { x[9], x[10] = x[10], x[9]; return x }, is(3, 0)},
		"last step's":       {func(x [][]byte) [][]byte { return append(x, x[2]) }, is(5, 0)},
		"fewer steps":       {func(x [][]byte) [][]byte { return x[:8] }, api.Diff{}},
		"no steps":          {func(x [][]byte) [][]byte { return x[:1] }, api.Diff{}},
		"another step":      {func(x [][]byte) [][]byte { x[4] = Step(publishing("x", number(1))); return x }, is(1, 1)},
		"step is missing":   {func(x [][]byte) [][]byte { return slices.Delete(x, 7, 8) }, is(2, 0)},
		"step that is idle": {func(x [][]byte) [][]byte { return slices.Insert(x, 7, Step(working(0))) }, api.Diff{}},
	} {
		b := journalOf(t, c.change(slices.Clone(made))...)
		if d, e := playAsSaid(t, p, b); d != c.want || e != api.OK {
			t.Errorf("%s: %v, %v, not %v", name, d, e, c.want)
		}
	}
}

// P28.4: Read's error, ahead of all else.
func TestPlayNoRecording(t *testing.T) {
	p := plan(t, `handler a = count; route "x" -> a;`)
	bad := []byte{1, 0}
	for _, b := range [][]byte{nil, journalOf(t), journalOf(t, bad), journalOf(t, planRecord("p"), bad), journalOf(t, planRecord(check.Write(p)), Step(working(1)), bad)} {
		if d, e := playAsSaid(t, p, b); d != (api.Diff{}) || e != api.ErrForm {
			t.Errorf("% x: %v, %v", b, d, e)
		}
	}
}

// P28.4: over another plan, and recordings of which some events are others.
func TestPlayTurned(t *testing.T) {
	r := newRandom(5)
	parted := 0
	for range 800 {
		p, q, l := randomPlan(t, r), randomPlan(t, r), randomSteps(t, r)
		records := chapterRecords(p, l)
		if r.IntN(2) == 0 {
			// The other plan's text: so what happens parts, and not the text.
			records[0] = planRecord(check.Write(q))
		}
		b := journalOf(t, records...)
		if d, _ := playAsSaid(t, q, b); d.Step > 0 {
			parted++
		}
		playAsSaid(t, p, b)
	}
	if parted < 100 {
		t.Error(parted)
	}
}
