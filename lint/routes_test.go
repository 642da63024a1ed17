package lint

import (
	"strings"
	"testing"

	"conduit/api"
	"conduit/check"
)

const one = "handler a = echo; "

// P31.2: a pattern that matches no kind makes a route dead; none at all does not.
func TestDeadPatterns(t *testing.T) {
	for when, dead := range map[string]bool{
		"": false, " when any": false, " when nil": false, " when any | nil": false, " when int & text": true, " when !(any | nil)": true,
		" when any & nil": true, " when pointer & nopointer": false, " when nopointer & !pointer": true, " else": false,
	} {
		said := ""
		if dead {
			said = "dead 0; idle 0"
		}
		sees(t, one+`route "x"`+when+` -> a;`, said)
	}
}

// P31.2: an Else one is dead, if another one takes all that it has: by the filters, whatever handler these lead to, and wherever they stand.
func TestDeadElse(t *testing.T) {
	for _, c := range []struct{ wide, narrow, said string }{
		{"a/#", "a", "dead 1"}, {"a/#", "a/b", "dead 1"}, {"a/#", "a/+/c", "dead 1"}, {"a/#", "a/#", "dead 1"}, {"a/+", "a/#", ""}, {"a/b", "a/+", ""},
		{"#", "+/#", "dead 1"}, {"+/#", "#", "dead 1"}, {"#", "$s", ""}, {"#", "$s/#", ""}, {"$s/#", "$s", "dead 1"}, {"+", "$s", ""}, {"+", "a", "dead 1"},
		{"a", "b", ""}, {"a", "a", "dead 1"}, {"a", "a/", ""}, {"+/+", "/", "dead 1"}, {"/#", "/+/#", "dead 1"}, {"/+/#", "/#", "dead 1"}, {"a/#", "#", ""},
	} {
		sees(t, one+`route "`+c.wide+`" -> a; route "`+c.narrow+`" else -> a;`, c.said)
		sees(t, one+`route "`+c.narrow+`" else -> a; route "`+c.wide+`" -> a;`, strings.Replace(c.said, "1", "0", 1))
		said := c.said
		if said != "" {
			said += "; idle 1"
		}
		sees(t, one+`handler b = echo; route "`+c.wide+`" -> a; route "`+c.narrow+`" else -> b;`, said)
	}
}

// P31.2: who takes all must be no Else one, and let all kinds through: KNil, too.
func TestDeadByWhat(t *testing.T) {
	for when, dead := range map[string]bool{"": true, " when any | nil": true, " when int | !int": true, " when any": false, " when !nil": false, " when nil": false, " when !unit": false, " else": false} {
		said := ""
		if dead {
			said = "dead 1"
		}
		sees(t, one+`route "a/#"`+when+` -> a; route "a" else -> a;`, said)
	}
	// It is dead itself, and takes nothing.
	sees(t, one+`route "a/#" when int & text -> a; route "a" else -> a;`, "dead 0")
	// None of these does, though both together do.
	sees(t, one+`route "a" when any -> a; route "a" when nil -> a; route "a" else -> a;`, "")
	sees(t, one+`route "a" -> a; route "a/+/#" -> a; route "a/#" else -> a;`, "")
	// One that is no Else one takes nothing from its like, nor does an Else one.
	sees(t, one+`route "#" -> a; route "a" -> a; route "a" when int -> a; route "#" -> a;`, "")
	sees(t, one+`route "#" else -> a; route "#" else -> a; route "a" else -> a;`, "")
}

// P31.2: a handler is idle, if no route leads to it that is not dead.
func TestIdle(t *testing.T) {
	sees(t, one, "idle 0")
	sees(t, "", "")
	sees(t, three, "idle 0; idle 1; idle 2")
	sees(t, three+`route "x" -> b;`, "idle 0; idle 2")
	sees(t, three+`route "x" else -> c; route "x" when nil -> a;`, "idle 1")
	sees(t, three+`route "x" when int & text -> a; route "x" -> b; route "x" else -> c;`, "dead 0; dead 2; idle 0; idle 2")
	sees(t, three+`route "x" when int & text -> a; route "y" -> a; route "x" -> b; route "x" else -> c; route "y" else -> c; route "z" else -> c;`, "dead 0; dead 3; dead 4")
	// What others lead to it otherwise than by routes plays no part.
	sees(t, `handler a = echo; handler b = of a; handler c = echo after a; route "x" -> c;`, "idle 0; idle 1; nocap 2 of 0 cap 1")
}

// P31.2: many routes, the last one being what takes all.
func TestManyRoutes(t *testing.T) {
	var b, said strings.Builder
	b.WriteString(one)
	for i := range api.MaxRoutes - 1 {
		b.WriteString("route \"a/b\" else -> a;\n")
		said.WriteString("dead " + number(i) + "; ")
	}
	sees(t, b.String()+`route "+/b" when any -> a;`, "")
	sees(t, b.String()+`route "+/b" -> a;`, strings.TrimSuffix(said.String(), "; "))
}

// P31.2: filters of as many bytes as they may have.
func TestGreatFilters(t *testing.T) {
	p := api.Plan{Handlers: plan(t, one).Handlers}
	levels := strings.Repeat("/", api.MaxBytes-1)
	for _, c := range []struct {
		wide, narrow, said string
	}{
		{levels[1:] + "#", levels + "a", "dead 1"}, {levels + "#", levels + "a", "dead 1"}, {levels + "+", levels + "a", "dead 1"}, {levels + "a", levels + "a", "dead 1"},
		{levels + "a", levels + "b", ""}, {levels + "a", levels + "+", ""}, {levels[1:] + "a", levels + "a", ""},
	} {
		p.Routes = []api.Route{{Filter: c.wide}, {Filter: c.narrow, Else: true}}
		if !check.Fit(p) {
			t.Fatal("not fit")
		}
		if l := lookAsSaid(t, p); show(l) != c.said {
			t.Errorf("%s", show(l))
		}
	}
}
