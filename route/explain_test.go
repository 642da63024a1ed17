package route

import (
	"strings"
	"testing"

	"conduit/api"
)

// P21.3: the word of each route; the topic comes ahead of the type, of Else ones too.
func TestExplainWords(t *testing.T) {
	text := kind(api.KText)
	for i, c := range []struct {
		l     []api.Route
		lines string
	}{
		{nil, ""},
		{[]api.Route{{Filter: "a"}}, "0 takes\n"},
		{[]api.Route{{Filter: "a", Want: anything()}}, "0 takes\n"},
		{[]api.Route{{Filter: "a", Else: true}}, "0 else\n"},
		{[]api.Route{{Filter: "a", Else: true}, {Filter: "+"}}, "0 spare\n1 takes\n"},
		{[]api.Route{{Filter: "a"}, {Filter: "+", Else: true}, {Filter: "#", Else: true}}, "0 takes\n1 spare\n2 spare\n"},
		{[]api.Route{{Filter: "b"}}, "0 topic\n"},
		{[]api.Route{{Filter: "b", Want: text}}, "0 topic\n"},
		{[]api.Route{{Filter: "b", Want: text, Else: true}}, "0 topic\n"},
		{[]api.Route{{Filter: "a", Want: text}}, "0 type\n"},
		{[]api.Route{{Filter: "a", Want: text, Else: true}}, "0 type\n"},
		{[]api.Route{{Filter: "a", Want: text}, {Filter: "b"}, {Filter: "#", Else: true}, {Filter: "a", Want: text, Else: true}, {Filter: "+", Else: true}}, "0 type\n1 topic\n2 else\n3 type\n4 else\n"},
	} {
		if _, _, lines := asSaid(t, c.l, on("a", read(t, "5"))); lines != c.lines {
			t.Errorf("%d: %q", i, lines)
		}
	}
}

// P21.3: places of several digits.
func TestExplainPlaces(t *testing.T) {
	l := make([]api.Route, 101)
	for i := range l {
		l[i].Filter = "b"
	}
	_, _, lines := asSaid(t, l, on("a", api.Datum{}))
	if !strings.HasPrefix(lines, "0 topic\n1 topic\n") || !strings.Contains(lines, "\n10 topic\n") || !strings.HasSuffix(lines, "\n99 topic\n100 topic\n") {
		t.Errorf("%q", lines)
	}
}
