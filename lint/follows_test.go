package lint

import (
	"slices"
	"testing"

	"conduit/api"
	"conduit/bus"
	"conduit/check"
	"conduit/route"
	"conduit/topic"
	"conduit/want"
)

// told is where findings of a sort stand.
func told(l []api.Finding, what int) (places []int) {
	for _, f := range l {
		if f.What == what {
			places = append(places, f.At)
		}
	}
	return places
}

// P31.3, P31.4: no message goes by a route that is told, nor to a handler that is.
func TestDeadIsDead(t *testing.T) {
	r := newRandom(3)
	bodies := samples()
	none, idle := 0, 0
	for range 1500 {
		p := randomPlan(t, r)
		l := Look(p)
		none, idle = none+len(told(l, api.FindDead)), idle+len(told(l, api.FindIdle))
		for _, name := range someNames {
			for _, d := range bodies {
				m := api.Msg{Topic: name, Body: d}
				for _, i := range route.Find(p.Routes, m).Routes {
					if slices.Contains(told(l, api.FindDead), i) {
						t.Fatalf("%s: %s of kind %d goes by %d", check.Write(p), name, d.Kind, i)
					}
				}
				for _, h := range route.Handlers(p.Routes, m) {
					if slices.Contains(told(l, api.FindIdle), h) {
						t.Fatalf("%s: %s of kind %d goes to %d", check.Write(p), name, d.Kind, h)
					}
				}
			}
		}
	}
	if min(none, idle) < 500 {
		t.Errorf("%d routes, %d handlers", none, idle)
	}
}

// P31.2: a route that is not told and not Else takes some message: one of its topics with a body that it lets through.
func TestLiveIsLive(t *testing.T) {
	r := newRandom(4)
	for range 1500 {
		p := randomPlan(t, r)
		dead := told(Look(p), api.FindDead)
		for i, one := range p.Routes {
			name, ok := topic.Common(one.Filter, one.Filter)
			takes := ok && slices.ContainsFunc(samples(), func(d api.Datum) bool {
				return slices.Contains(route.Find(p.Routes, api.Msg{Topic: name, Body: d}).Routes, i)
			})
			if !one.Else && takes == slices.Contains(dead, i) {
				t.Fatalf("%s: %d takes something: %v", check.Write(p), i, takes)
			}
		}
	}
}

// keepsAway is whether a wrapper may keep a message from what lies within, which it then tells by an error of its own.
func keepsAway(w api.Wrap) bool {
	return slices.Contains([]int{api.WrLimit, api.WrBreaker, api.WrDedup, api.WrUntil}, w.Op)
}

// P31.4, P31.5: of a whole run: a handler that is told as idle gets nothing, and one with a filter that is told gives nothing but that filter's refusal, or what keeps the message away above it.
func TestRuns(t *testing.T) {
	r := newRandom(5)
	refused, kept := 0, 0
	for range 5000 {
		p := randomPlan(t, r)
		l := Look(p)
		var steps []api.Step
		for range 12 {
			steps = append(steps, api.Step{Kind: api.StPublish, Msg: randomMsg(r)}, api.Step{Kind: api.StWork, N: r.Int64N(9)}, api.Step{Kind: api.StTick, N: r.Int64N(2)})
		}
		_, all := bus.Run(p, append(steps, api.Step{Kind: api.StWork, N: 99}))
		for _, e := range slices.Concat(all...) {
			if e.Kind == api.EvQueued && slices.Contains(told(l, api.FindIdle), e.Handler) {
				t.Fatalf("%s: %+v", check.Write(p), e)
			}
			if e.Kind != api.EvDone {
				continue
			}
			for _, f := range l {
				if f.What != api.FindRefuse || f.At != e.Handler {
					continue
				}
				above := p.Handlers[f.At].Chain.Wraps[f.Other:]
				away := slices.Contains([]api.Errno{api.ErrLimit, api.ErrOpen, api.ErrAgain, api.ErrLate}, e.Result.Err)
				if e.Result.Err != api.ErrRefuse && !(away && slices.ContainsFunc(above, keepsAway)) {
					t.Fatalf("%s: %+v, though %+v", check.Write(p), e, f)
				}
				refused++
				if away {
					kept++
				}
			}
		}
	}
	if refused < 800 || kept < 8 {
		t.Errorf("%d, %d of which were kept away", refused, kept)
	}
}

// P31.5: whatever body comes by routes, the filter that is told does not hold of it.
func TestToldFilters(t *testing.T) {
	r := newRandom(6)
	n := 0
	for range 3000 {
		p := randomPlan(t, r)
		for _, f := range Look(p) {
			if f.What != api.FindRefuse {
				continue
			}
			n++
			filter := p.Handlers[f.At].Chain.Wraps[f.Other-1].Want
			for _, name := range someNames {
				for _, d := range samples() {
					if want.Holds(filter, d) && slices.Contains(route.Handlers(p.Routes, api.Msg{Topic: name, Body: d}), f.At) {
						t.Fatalf("%s: %s of kind %d comes through %+v", check.Write(p), name, d.Kind, f)
					}
				}
			}
		}
	}
	if n < 300 {
		t.Errorf("%d filters", n)
	}
}
