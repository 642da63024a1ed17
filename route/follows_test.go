package route

import (
	"slices"
	"strconv"
	"strings"
	"testing"

	"conduit/api"
)

// told is the places of the lines that have one of these words.
func told(t testing.TB, lines string, words ...string) (places []int) {
	t.Helper()
	for line := range strings.Lines(lines) {
		place, word, ok := strings.Cut(strings.TrimSuffix(line, "\n"), " ")
		n, err := strconv.Atoi(place)
		if !ok || err != nil || !strings.HasSuffix(line, "\n") {
			t.Fatalf("%q", lines)
		}
		if slices.Contains(words, word) {
			places = append(places, n)
		}
	}
	return places
}

// P21.4: it goes by the routes that are told to take it and by no others, by Else ones just if no other one agrees; all routes are told.
func TestTotalAndTold(t *testing.T) {
	r := newRandom(3)
	bodies := samples(t)
	for range 20000 {
		l, m := randomRoutes(r, 10), randomMsg(r, bodies)
		taken, lines := Find(l, m), Explain(l, m)
		if !slices.Equal(taken.Routes, told(t, lines, "takes", "else")) || len(told(t, lines, "takes", "else", "spare", "topic", "type")) != len(l) {
			t.Fatalf("%s, %s: %v, %q", show(l), showMsg(m), taken, lines)
		}
		takes, rest, spare := told(t, lines, "takes"), told(t, lines, "else"), told(t, lines, "spare")
		if len(takes) > 0 && len(rest) > 0 || len(takes) == 0 && len(spare) > 0 || taken.Else != (len(rest) > 0) {
			t.Fatalf("%s, %s: %v, %q", show(l), showMsg(m), taken, lines)
		}
		for i, one := range l {
			if isElse := slices.Contains(rest, i) || slices.Contains(spare, i); isElse && !one.Else || slices.Contains(takes, i) && one.Else {
				t.Fatalf("%s, %s: %q", show(l), showMsg(m), lines)
			}
		}
	}
}

// P21.5: without a value: by a pattern that has KNil, or by none at all; WAny has it not.
func TestWithoutValue(t *testing.T) {
	l := []api.Route{
		{Filter: "a"}, {Filter: "a", Want: kind(api.KNil)}, {Filter: "a", Want: op(api.WNot, anything())}, {Filter: "a", Want: op(api.WOr, kind(api.KText), kind(api.KNil))}, {Filter: "a", Want: op(api.WNot, kind(api.KInt))},
		{Filter: "a", Want: anything()}, {Filter: "a", Want: kind(api.KPtr)}, {Filter: "a", Want: kind(api.KNoPtr)}, {Filter: "a", Want: op(api.WNot, kind(api.KNil))}, {Filter: "a", Want: op(api.WAnd, kind(api.KNil), anything())},
	}
	for k := range api.NumKinds {
		if k != api.KNil {
			l = append(l, api.Route{Filter: "a", Want: kind(k)})
		}
	}
	for f := range api.NumFaces {
		l = append(l, api.Route{Filter: "a", Want: face(f)})
	}
	if taken, _, _ := asSaid(t, l, on("a", api.Datum{})); !slices.Equal(taken.Routes, []int{0, 1, 2, 3, 4}) || taken.Else {
		t.Error(taken)
	}
	for i := range l {
		l[i].Else = true
	}
	if taken, _, _ := asSaid(t, l, on("a", api.Datum{})); !slices.Equal(taken.Routes, []int{0, 1, 2, 3, 4}) || !taken.Else {
		t.Error(taken)
	}
}

// P21.5: of a row where none has KNil nobody takes it, and of what has a value one does.
func TestAnyIsNotAll(t *testing.T) {
	l := []api.Route{{Filter: "#", Want: anything()}}
	for _, d := range samples(t) {
		if taken, _, _ := asSaid(t, l, on("a", d)); len(taken.Routes) == 1 != (d.Kind != api.KNil) {
			t.Errorf("kind %d: %v", d.Kind, taken)
		}
	}
}

// P21.6: routes that are added, anywhere and of any sort, take nothing away from those that are not Else.
func TestAddedTakeNothingAway(t *testing.T) {
	r := newRandom(4)
	bodies := samples(t)
	looked := 0
	for range 20000 {
		l, m := randomRoutes(r, 8), randomMsg(r, bodies)
		taken := Find(l, m)
		at := r.IntN(len(l) + 1)
		added := randomRoutes(r, 3)
		more := Find(slices.Insert(slices.Clone(l), at, added...), m)
		if taken.Else || len(taken.Routes) == 0 {
			continue
		}
		looked++
		for _, i := range taken.Routes {
			if i >= at {
				i += len(added)
			}
			if more.Else || !slices.Contains(more.Routes, i) {
				t.Fatalf("%s, %s: %v; with %s at %d: %v", show(l), showMsg(m), taken, show(added), at, more)
			}
		}
	}
	if looked < 2000 {
		t.Errorf("only %d looked at", looked)
	}
}

// P21.6: of Else ones another route may take it away, and an Else one may not.
func TestAddedToElse(t *testing.T) {
	l := []api.Route{{Filter: "#", Else: true}}
	m := on("a", api.Datum{})
	for _, c := range []struct {
		added  api.Route
		routes []int
		isElse bool
	}{
		{api.Route{Filter: "a"}, []int{1}, false},
		{api.Route{Filter: "a", Else: true}, []int{0, 1}, true},
		{api.Route{Filter: "b"}, []int{0}, true},
		{api.Route{Filter: "a", Want: anything()}, []int{0}, true},
	} {
		if taken, _, _ := asSaid(t, slices.Concat(l, []api.Route{c.added}), m); !slices.Equal(taken.Routes, c.routes) || taken.Else != c.isElse {
			t.Errorf("%s: %v", show([]api.Route{c.added}), taken)
		}
	}
}
