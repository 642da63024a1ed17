package lint

import (
	"math/rand/v2"
	"slices"
	"strconv"
	"strings"
	"testing"

	"conduit/api"
	"conduit/check"
	"conduit/datum"
	"conduit/parse"
	"conduit/shown"
	"conduit/topic"
	"conduit/want"
)

func newRandom(seed uint64) *rand.Rand { return rand.New(rand.NewPCG(seed, 31)) }

func pick[T any](r *rand.Rand, l ...T) T { return l[r.IntN(len(l))] }

func plan(t testing.TB, config string) api.Plan {
	t.Helper()
	p, f := check.Load([]byte(config))
	if f.Err != api.OK {
		t.Fatalf("%s: %v", config, f)
	}
	return p
}

func pattern(t testing.TB, s string) api.Want {
	t.Helper()
	w, ok := parse.Want(s)
	if !ok {
		t.Fatalf("%s is no pattern", s)
	}
	return w
}

func kind(k int) api.Want { return api.Want{Op: api.WKind, Num: k} }

func op(o int, l ...api.Want) api.Want { return api.Want{Op: o, List: l} }

// samples is a value of each kind, in their order.
func samples() (out []api.Datum) {
	for _, s := range strings.Fields(`nil 5 #7 f3ff0000000000000 "x" @"n" true %00ff [] (1,2) !3"e" &1(nil) &nil {}`) {
		d, e := datum.Parse(strings.ReplaceAll(s, ",", ", "))
		if e != api.OK || d.Kind != len(out) {
			panic(s)
		}
		out = append(out, d)
	}
	return out
}

// goesBy is whether a body may go by a route: "all kinds, where its Want is zero".
func goesBy(r api.Route, d api.Datum) bool {
	return r.Want.Op == 0 && r.Want.Num == 0 && len(r.Want.List) == 0 || want.Holds(r.Want, d)
}

// chapterEmpty and chapterFull are P31.1.
func chapterEmpty(w api.Want) bool {
	return !slices.ContainsFunc(samples(), func(d api.Datum) bool { return want.Holds(w, d) })
}

func chapterFull(w api.Want) bool {
	return !slices.ContainsFunc(samples(), func(d api.Datum) bool { return !want.Holds(w, d) })
}

func chapterDead(p api.Plan, i int) bool {
	r := p.Routes[i]
	if !slices.ContainsFunc(samples(), func(d api.Datum) bool { return goesBy(r, d) }) {
		return true
	}
	return r.Else && slices.ContainsFunc(p.Routes, func(other api.Route) bool {
		all := !slices.ContainsFunc(samples(), func(d api.Datum) bool { return !goesBy(other, d) })
		return !other.Else && all && topic.Covers(other.Filter, r.Filter)
	})
}

// leading is the routes that are not dead and lead to a handler.
func leading(p api.Plan, h int) (l []api.Route) {
	for i, r := range p.Routes {
		if r.Handler == h && !chapterDead(p, i) {
			l = append(l, r)
		}
	}
	return l
}

// reached is the handlers to which ways along After lead from one, without itself, unless one comes round to it.
func reached(p api.Plan, from int) (l []int) {
	work := []int{from}
	for ; len(work) > 0; work = work[1:] {
		for _, next := range p.Handlers[work[0]].After {
			if next != work[0] && !slices.Contains(l, next) {
				l, work = append(l, next), append(work, next)
			}
		}
	}
	return l
}

// chapterLoops is chapter 22's promise P22.6 on what is in the cycle.
func chapterLoops(p api.Plan, h int) bool {
	round := func(k int) bool { return slices.Contains(reached(p, k), k) }
	return round(h) || slices.ContainsFunc(reached(p, h), round)
}

// chapterRefuses is whether the wrapper of a level is a filter that is told.
func chapterRefuses(p api.Plan, h, level int) bool {
	wraps, l := p.Handlers[h].Chain.Wraps, leading(p, h)
	changed := slices.ContainsFunc(wraps[level:], func(w api.Wrap) bool { return w.Op == api.WrMap || w.Op == api.WrBuffer })
	if len(l) == 0 || changed || wraps[level-1].Op != api.WrFilter {
		return false
	}
	return !slices.ContainsFunc(l, func(r api.Route) bool {
		return slices.ContainsFunc(samples(), func(d api.Datum) bool { return goesBy(r, d) && want.Holds(wraps[level-1].Want, d) })
	})
}

// chapterLook is P31.2.
func chapterLook(p api.Plan) []api.Finding {
	var l [api.NumFinds][]api.Finding
	find := func(what, at, other, which int) {
		l[what] = append(l[what], api.Finding{What: what, At: at, Other: other, Cap: which})
	}
	for i := range p.Routes {
		if chapterDead(p, i) {
			find(api.FindDead, i, 0, 0)
		}
	}
	for h, named := range p.Handlers {
		if len(leading(p, h)) == 0 {
			find(api.FindIdle, h, 0, 0)
		}
		for other, o := range p.Handlers {
			if slices.Contains(named.After, other) && shown.Who(o.Chain, api.CapClose) < 0 {
				find(api.FindNoCap, h, other, api.CapClose)
			}
		}
		for which := range api.NumCaps {
			if named.Chain.Core.Caps>>which&1 == 1 && shown.Reach(named.Chain, which) != 0 {
				find(api.FindLost, h, 0, which)
			}
		}
		if chapterLoops(p, h) {
			find(api.FindLoop, h, 0, 0)
		}
		for level := len(named.Chain.Wraps); level > 0; level-- {
			if chapterRefuses(p, h, level) {
				find(api.FindRefuse, h, level, 0)
			}
		}
	}
	return slices.Concat(l[:]...)
}

// lookAsSaid holds what Look tells against the chapter.
func lookAsSaid(t testing.TB, p api.Plan) []api.Finding {
	t.Helper()
	got := Look(p)
	if said := chapterLook(p); !slices.Equal(got, said) {
		t.Fatalf("%s: %s, not %s", check.Write(p), show(got), show(said))
	}
	return got
}

func show(l []api.Finding) string {
	words := [api.NumFinds]string{"none", "dead", "idle", "nocap", "lost", "loop", "refuse"}
	var out []string
	for _, f := range l {
		s := words[f.What] + " " + strconv.Itoa(f.At)
		if f.Other != 0 || f.What == api.FindNoCap || f.What == api.FindRefuse {
			s += " of " + strconv.Itoa(f.Other)
		}
		if f.Cap != 0 || f.What == api.FindLost {
			s += " cap " + strconv.Itoa(f.Cap)
		}
		out = append(out, s)
	}
	return strings.Join(out, "; ")
}

// sees holds what is told of a configuration against what is written, and against the chapter.
func sees(t *testing.T, config, said string) {
	t.Helper()
	if got := show(lookAsSaid(t, plan(t, config))); got != said {
		t.Errorf("%s: %s, not %s", config, got, said)
	}
}

var (
	someFilters  = []string{"a", "b", "a/b", "a/c", "a/+", "a/#", "+/b", "+", "#", "+/#", "+/+", "/#", "$s", "$s/#", "$s/+", "a/b/#", "a//b"}
	someNames    = []string{"a", "b", "c", "a/b", "a/c", "b/b", "a/b/c", "/", "/a", "//", "a//b", "$s", "$s/a", "$s/b/c", "$", "a/$s"}
	somePatterns = []string{"int", "text", "any", "any | nil", "nil", "text & int", "!any", "!nil", "sized", "pointer", "nopointer", "pointer & !nopointer", "!(any | nil)", "ordered | failing", "any & !any", "int | !int", "whole", "adding"}
	someCores    = []string{"echo", "count", "sum", "store 3", "echo caps close", "count caps close", "echo caps flush, close", "count caps close, save, load", "echo caps flush, close, batch, ping, reset", "store caps flush, batch, save, load, name, ack, until"}
	someWraps    = []string{
		"through", "hide", "open hide", "mask caps close", "mask caps flush, ping", "open mask caps flush", "give caps close", "give caps flush, reset", "retry 2", "limit 2 3", "open breaker 1 2", "dedup 3", "open dedup 3", "buffer 2 3", "until 5", "open through",
		"map:list", "map:size", "filter when int", "filter when text", "filter when any", "filter when nil | text", "filter when sized", "filter when !any", "filter when pointer", "filter when text & int",
	}
)

// randomPlan has few filters and patterns, so that routes take from one another, and filters refuse.
func randomPlan(t testing.TB, r *rand.Rand) api.Plan {
	t.Helper()
	var b strings.Builder
	n := pick(r, 0, 1, 2, 2, 3, 3, 4, 5)
	for h := range n {
		b.WriteString("handler h" + strconv.Itoa(h) + " = " + pick(r, someCores...))
		for range pick(r, 0, 0, 1, 1, 2, 3, 4) {
			b.WriteString(" with " + pick(r, someWraps...))
		}
		for i, other := range r.Perm(n)[:r.IntN(min(n, 3)+1)] {
			b.WriteString([]string{" after h", ", h", ", h"}[i] + strconv.Itoa(other))
		}
		b.WriteString(";\n")
	}
	for range pick(r, 0, n, n, 2*n, 3*n) {
		b.WriteString("route \"" + pick(r, someFilters...) + "\"" + pick(r, "", "", " else", " else", " when "+pick(r, somePatterns...), " when "+pick(r, somePatterns...)) + " -> h" + strconv.Itoa(r.IntN(n)) + ";\n")
	}
	return plan(t, b.String())
}

// randomMsg is any message that routes may take.
func randomMsg(r *rand.Rand) api.Msg {
	return api.Msg{Id: 1 + r.Int64N(9), Topic: pick(r, someNames...), Body: pick(r, samples()...), At: r.Int64N(5), Prio: r.IntN(3)}
}
