package desk

import (
	"slices"
	"strconv"
	"strings"

	"conduit/api"
	"conduit/bus"
	"conduit/caps"
	"conduit/lint"
	"conduit/route"
	"conduit/shown"
	"conduit/stats"
)

// opened is what lies open on a desk: a plan, its bus, and all that has happened in it.
type opened struct {
	isOpen bool
	plan   api.Plan
	state  api.Bus
	events []api.Event
}

// numberOf is the number of the handler that has a name; -1: there is none.
func (o *opened) numberOf(name string) int {
	return slices.IndexFunc(o.plan.Handlers, func(h api.Named) bool { return h.Name == name })
}

func (o *opened) chain(s said) api.Chain { return o.plan.Handlers[s.handler].Chain }

func (o *opened) lint(said) string {
	var b strings.Builder
	for _, f := range lint.Look(o.plan) {
		b.WriteString(strconv.Itoa(f.What) + " " + strconv.Itoa(f.At) + " " + strconv.Itoa(f.Other) + " " + strconv.Itoa(f.Cap) + "\n")
	}
	if b.Len() == 0 {
		return "none\n"
	}
	return b.String()
}

func (o *opened) shown(s said) string {
	words := caps.Text(shown.Shown(o.chain(s)))
	if words == "" {
		return "nothing\n"
	}
	return words + "\n"
}

func (o *opened) who(s said) string {
	level := shown.Who(o.chain(s), s.which)
	if level < 0 {
		return "not shown\n"
	}
	return "level " + strconv.Itoa(level) + "\n"
}

func (o *opened) explain(s said) string { return route.Explain(o.plan.Routes, s.msg()) }

func (s said) msg() api.Msg { return api.Msg{Topic: s.topic, Body: s.value, Reply: s.reply} }

func (o *opened) publish(s said) string {
	return o.step(api.Step{Kind: api.StPublish, Msg: s.msg()})
}

func (o *opened) ask(s said) string {
	return o.step(api.Step{Kind: api.StAsk, Msg: s.msg(), N: s.number})
}

func (o *opened) work(s said) string { return o.step(api.Step{Kind: api.StWork, N: s.number}) }

func (o *opened) tick(s said) string { return o.step(api.Step{Kind: api.StTick, N: s.number}) }

func (o *opened) call(s said) string { return o.step(s.call(false)) }

func (o *opened) deep(s said) string { return o.step(s.call(true)) }

func (s said) call(deep bool) api.Step {
	return api.Step{Kind: api.StCall, Handler: s.handler, Cap: s.which, Arg: s.value, Deep: deep}
}

func (o *opened) close(said) string { return o.step(api.Step{Kind: api.StClose}) }

func (o *opened) step(s api.Step) string {
	st, events := bus.Do(o.plan, o.state, s)
	o.state, o.events = st, append(o.events, events...)
	return o.tellAll(events)
}

func (o *opened) stats(said) string {
	return stats.Text(o.plan, stats.Count(len(o.plan.Handlers), o.events))
}
