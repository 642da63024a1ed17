package lint

import (
	"strconv"
	"strings"
	"testing"

	"conduit/api"
)

func number(n int) string { return strconv.Itoa(n) }

// handled is a configuration in which a route leads to each of these handlers.
func handled(handlers string) string {
	var b strings.Builder
	b.WriteString(handlers)
	for h := range strings.SplitSeq(handlers, ";") {
		if words := strings.Fields(h); len(words) > 1 {
			b.WriteString(` route "x" -> ` + words[1] + ";")
		}
	}
	return b.String()
}

// P31.2: each that must be closed first and does not show that it can be, rising, whatever the order in which they stand there.
func TestNoCap(t *testing.T) {
	for handlers, said := range map[string]string{
		"handler a = echo; handler b = echo after a;":                                             "nocap 1 of 0 cap 1",
		"handler a = echo caps close; handler b = echo after a;":                                  "",
		"handler a = echo with give caps close; handler b = echo after a;":                        "",
		"handler a = echo caps close with retry 2 with open limit 2 3; handler b = echo after a;": "",
		"handler a = echo caps close with mask caps flush; handler b = echo after a;":             "nocap 1 of 0 cap 1; lost 0 cap 1",
		"handler a = echo caps close with open hide; handler b = echo after a;":                   "nocap 1 of 0 cap 1",
		"handler a = echo after b; handler b = echo;":                                             "nocap 0 of 1 cap 1",
		"handler a = echo after a;":                                                               "nocap 0 of 0 cap 1",
		"handler a = echo caps close after a;":                                                    "",
		"handler a = echo caps flush; handler b = echo; handler c = echo caps close after b, a;":  "nocap 2 of 0 cap 1; nocap 2 of 1 cap 1",
		"handler a = echo caps close; handler b = echo; handler c = echo after c, b, a;":          "nocap 2 of 1 cap 1; nocap 2 of 2 cap 1",
	} {
		sees(t, handled(handlers), said)
	}
	sees(t, handled("handler a = echo; handler b = echo caps close after a; handler c = echo after a, b;"), "nocap 1 of 0 cap 1; nocap 2 of 0 cap 1")
}

// P31.2: each capability of the core that is not reached any more: behind what does not keep it, unless it can be opened; who gives it instead is another one.
func TestLost(t *testing.T) {
	for handlers, said := range map[string]string{
		"handler a = echo caps flush, close with mask caps flush with give caps ping;":           "lost 0 cap 1",
		"handler a = echo caps flush, close with open mask caps flush with open give caps ping;": "",
		"handler a = echo caps flush, close with open mask caps flush with give caps ping;":      "lost 0 cap 1",
		"handler a = store caps flush, batch, close, save, load with hide;":                      "lost 0 cap 0; lost 0 cap 1; lost 0 cap 2; lost 0 cap 6; lost 0 cap 7",
		"handler a = store caps flush, batch with retry 3;":                                      "lost 0 cap 2",
		"handler a = store caps flush, batch with open retry 3;":                                 "",
		"handler a = echo caps flush with buffer 1 0;":                                           "lost 0 cap 0",
		"handler a = echo caps flush with open buffer 1 0;":                                      "lost 0 cap 0",
		"handler a = echo caps until, ack, ping, reset, name with until 5 with dedup 4;":         "lost 0 cap 5; lost 0 cap 9",
		"handler a = echo with hide;":                                                            "",
		"handler a = echo caps ping with hide; handler b = echo caps flush with hide;":           "lost 0 cap 4; lost 1 cap 0",
		"handler a = echo caps name with hide; handler b = of a; handler c = of b with through;": "lost 0 cap 8; lost 1 cap 8; lost 2 cap 8",
	} {
		sees(t, handled(handlers), said)
	}
}

// P31.2: those that wait for one another, and those that wait for such; who waits for itself waits for nobody else.
func TestLoop(t *testing.T) {
	for handlers, said := range map[string]string{
		"handler a = echo caps close after b; handler b = echo caps close after a;":                                                           "loop 0; loop 1",
		"handler a = echo caps close after a;":                                                                                                "",
		"handler a = echo caps close after b; handler b = echo caps close after c; handler c = echo caps close after a; handler d = echo;":    "loop 0; loop 1; loop 2",
		"handler d = echo; handler a = echo caps close after b; handler b = echo caps close after a; handler c = echo after b;":               "loop 1; loop 2; loop 3",
		"handler a = echo after b; handler b = echo caps close after c; handler c = echo caps close after b; handler d = echo caps close;":    "loop 0; loop 1; loop 2",
		"handler a = echo caps close after b, d; handler b = echo caps close after a, d; handler c = echo after d; handler d = of a after d;": "loop 0; loop 1",
		"handler a = echo caps close; handler b = echo caps close after a; handler c = echo caps close after a, b;":                           "",
	} {
		sees(t, handled(handlers), said)
	}
}

// P31.2: of the whole row of handlers, each after the next one, and the last one after the first one.
func TestLongLoop(t *testing.T) {
	var b strings.Builder
	var said []string
	for i := range api.MaxHandlers {
		b.WriteString("handler h" + number(i) + " = echo caps close after h" + number((i+1)%api.MaxHandlers) + ";\n")
		said = append(said, "loop "+number(i))
	}
	sees(t, b.String()+`route "#" -> h0;`, "idle "+strings.Join(numbers(1, api.MaxHandlers), "; idle ")+"; "+strings.Join(said, "; "))
}

func numbers(from, to int) (l []string) {
	for n := from; n < to; n++ {
		l = append(l, number(n))
	}
	return l
}

// P31.2: a filter is told, if it refuses the kinds of all routes that are not dead; none is told of a handler that is not led to.
func TestRefuse(t *testing.T) {
	const filter = "handler a = echo with filter when int; "
	for routes, said := range map[string]string{
		`route "x" when text -> a;`:                                            "refuse 0 of 1",
		`route "x" when int -> a;`:                                             "",
		`route "x" when text | int -> a;`:                                      "",
		`route "x" when ordered -> a;`:                                         "",
		`route "x" when nil -> a;`:                                             "refuse 0 of 1",
		`route "x" -> a;`:                                                      "",
		`route "x" else -> a;`:                                                 "",
		`route "x" when text -> a; route "y" when key -> a;`:                   "refuse 0 of 1",
		`route "x" when text -> a; route "y" when int -> a;`:                   "",
		`route "x" when text -> a; route "y" else -> a;`:                       "",
		`route "x" when text -> a; route "y" when int & text -> a;`:            "dead 1; refuse 0 of 1",
		`route "x" when text -> a; handler b = echo; route "y" when int -> b;`: "refuse 0 of 1",
		`route "x" when text -> a; handler b = of a; route "y" -> b;`:          "refuse 0 of 1",
		`route "x" when int & text -> a;`:                                      "dead 0; idle 0",
		``:                                                                     "idle 0",
		`handler b = echo; route "#" -> b; route "x" when text -> a; route "x" else -> a;`: "dead 2; refuse 0 of 1",
	} {
		sees(t, filter+routes, said)
	}
	sees(t, `handler a = echo with filter when !(any | nil); route "x" -> a;`, "refuse 0 of 1")
	sees(t, `handler a = echo with filter when any; route "x" when nil -> a;`, "refuse 0 of 1")
	sees(t, `handler a = echo with filter when pointer; route "x" when nopointer -> a;`, "")
	sees(t, `handler a = echo with filter when pointer & !nopointer; route "x" when nopointer -> a;`, "refuse 0 of 1")
}

// P31.2: from the outermost one inwards, up to the first wrapper that maps or buffers; each filter by itself, whatever others let through.
func TestRefuseLevels(t *testing.T) {
	for wraps, said := range map[string]string{
		"with filter when int with map:size":                              "",
		"with map:size with filter when int":                              "refuse 0 of 2",
		"with filter when int with buffer 2 0":                            "",
		"with buffer 2 0 with filter when int":                            "refuse 0 of 2",
		"with filter when int with filter when key":                       "refuse 0 of 2; refuse 0 of 1",
		"with filter when int with filter when text with filter when key": "refuse 0 of 3; refuse 0 of 1",
		"with filter when int with map:list with filter when key":         "refuse 0 of 3",
		"with filter when int with filter when key with map:list":         "",
		"with filter when int with open map:key":                          "",
		"with filter when any with filter when !text":                     "refuse 0 of 2",
		"with filter when int with through with hide with mask caps flush with give caps ping with retry 2 with limit 1 1 with until 5": "refuse 0 of 1",
		"with filter when int with breaker 1 1 with dedup 5 with open until 1":                                                          "refuse 0 of 1",
		"with open filter when int": "refuse 0 of 1",
	} {
		sees(t, `handler a = echo `+wraps+`; route "x" when text -> a;`, said)
	}
	eight := strings.Repeat(" with filter when int", api.MaxWraps)
	sees(t, "handler a = echo"+eight+`; route "x" when text -> a;`, "refuse 0 of "+strings.Join([]string{"8", "7", "6", "5", "4", "3", "2", "1"}, "; refuse 0 of "))
}

// P31.2: all that is found, in the order of its sorts.
func TestSorts(t *testing.T) {
	sees(t, `handler a = echo caps close, flush with filter when int with mask caps close after b;
		handler b = echo caps ping with hide after a;
		handler c = echo with filter when int with filter when key;
		route "x/#" when any | nil -> b; route "x" else -> a; route "y" when nil -> a; route "y" when int & text -> c;`,
		"dead 1; dead 3; idle 2; nocap 0 of 1 cap 1; lost 0 cap 0; lost 1 cap 4; loop 0; loop 1; refuse 0 of 1")
}

// P31.2: any plans.
func TestRandomPlans(t *testing.T) {
	r := newRandom(2)
	var found [api.NumFinds]int
	for range 6000 {
		for _, f := range lookAsSaid(t, randomPlan(t, r)) {
			found[f.What]++
		}
	}
	for what, n := range found[1:] {
		if n < 500 {
			t.Errorf("%d of sort %d", n, what+1)
		}
	}
}
