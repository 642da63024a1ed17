package replay

import (
	"strings"
	"testing"

	"conduit/api"
	"conduit/check"
)

// P28.2: the plan, then each step and what happened.
func TestRecord(t *testing.T) {
	r := newRandom(2)
	seen := [api.NumEvents]int{}
	for range 1000 {
		p, l := randomPlan(t, r), randomSteps(t, r)
		if _, e := recordAsSaid(t, p, l); e != api.OK {
			t.Fatal(e)
		}
		for _, events := range chapterEvents(p, l) {
			for _, e := range events {
				seen[e.Kind]++
			}
		}
	}
	for kind, n := range seen {
		if kind > 0 && n == 0 {
			t.Errorf("no event of the kind %d was told", kind)
		}
	}
}

// P28.2: what steps have in fields of others is not written down, and plays no part.
func TestRecordFilledUp(t *testing.T) {
	r := newRandom(3)
	for range 300 {
		p, l := randomPlan(t, r), randomSteps(t, r)
		want, _ := recordAsSaid(t, p, l)
		for i := range l {
			l[i] = filledUp(l[i])
		}
		if b, e := recordAsSaid(t, p, l); string(b) != string(want) || e != api.OK {
			t.Fatal(l, e)
		}
	}
}

// P28.2: nothing is done, nothing happens; nothing is there to do.
func TestRecordNothing(t *testing.T) {
	for _, config := range []string{"", "handler a = echo;", `handler a = echo; route "x" -> a;`} {
		p := plan(t, config)
		for _, l := range [][]api.Step{nil, {}, {working(5)}, {ticking(1), working(0)}, {closing(), closing()}} {
			recordAsSaid(t, p, l)
		}
	}
}

// planOf is a plan whose text has so many bytes.
func planOf(t *testing.T, n int) api.Plan {
	t.Helper()
	with := func(filter int) api.Plan {
		return plan(t, `handler a=echo;route "`+strings.Repeat("x", filter)+`"->a;`)
	}
	p := with(1 + n - len(check.Write(with(1))))
	if len(check.Write(p)) != n {
		t.Fatal(len(check.Write(p)))
	}
	return p
}

// P28.2: ErrRecord of the plan's, a step's, an event's record, with one byte too many.
func TestRecordTooLong(t *testing.T) {
	for n, want := range map[int]api.Errno{api.MaxRecord - 1: api.OK, api.MaxRecord: api.ErrRecord} {
		if _, e := recordAsSaid(t, planOf(t, n), []api.Step{working(1)}); e != want {
			t.Errorf("a plan's text of %d bytes: %v", n, e)
		}
	}
	p := plan(t, `handler a = echo; route "x" -> a;`)
	// sized is a step whose record has so many bytes.
	sized := func(topic string, n int) api.Step {
		s := publishing(topic, text(strings.Repeat("b", 60000)))
		return publishing(topic, text(strings.Repeat("b", n-len(Step(s))+60000)))
	}
	for _, c := range []struct {
		steps []api.Step
		want  api.Errno
	}{
		{[]api.Step{sized("y", api.MaxRecord)}, api.OK},
		{[]api.Step{sized("y", api.MaxRecord+1)}, api.ErrRecord},
		{[]api.Step{working(1), sized("x", api.MaxRecord), ticking(1)}, api.OK},
		{[]api.Step{working(1), sized("x", api.MaxRecord+1), ticking(1)}, api.ErrRecord},
		// An echo's record is longer than that of what was published by three bytes.
		{[]api.Step{sized("x", api.MaxRecord-3), working(1)}, api.OK},
		{[]api.Step{sized("x", api.MaxRecord-2), working(1)}, api.ErrRecord},
		{[]api.Step{sized("x", api.MaxRecord-2), working(0)}, api.OK},
	} {
		if b, e := recordAsSaid(t, p, c.steps); e != c.want || e != api.OK && b != nil {
			t.Errorf("%d bytes, %v, not %v", len(b), e, c.want)
		}
	}
}
