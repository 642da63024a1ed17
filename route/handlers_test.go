package route

import (
	"math"
	"slices"
	"strconv"
	"strings"
	"testing"

	"conduit/api"
)

// P21.2: each handler once, where it comes first, in the order of the routes and not of the numbers.
func TestHandlersTurns(t *testing.T) {
	for i, c := range []struct{ of, is []int }{
		{nil, nil},
		{[]int{0}, []int{0}},
		{[]int{3, 1, 2}, []int{3, 1, 2}},
		{[]int{5, 5, 5}, []int{5}},
		{[]int{2, 1, 2, 0, 1}, []int{2, 1, 0}},
		{[]int{1, 0, 0, 1}, []int{1, 0}},
		{[]int{math.MaxInt, 0, math.MaxInt}, []int{math.MaxInt, 0}},
	} {
		var l []api.Route
		for _, h := range c.of {
			l = append(l, api.Route{Filter: "b", Handler: 77}, api.Route{Filter: "a", Handler: h}, api.Route{Filter: "a", Handler: 88, Else: true})
		}
		if _, got, _ := asSaid(t, l, on("a", api.Datum{})); !slices.Equal(got, c.is) {
			t.Errorf("%d: %v", i, got)
		}
	}
}

// P21.2: the handlers of Else routes, where these take it.
func TestHandlersElse(t *testing.T) {
	l := []api.Route{{Filter: "#", Handler: 4, Else: true}, {Filter: "a", Handler: 1}, {Filter: "+", Handler: 3, Else: true}, {Filter: "#", Handler: 4, Else: true}}
	if _, got, _ := asSaid(t, l, on("b", api.Datum{})); !slices.Equal(got, []int{4, 3}) {
		t.Error(got)
	}
	if _, got, _ := asSaid(t, l, on("a", api.Datum{})); !slices.Equal(got, []int{1}) {
		t.Error(got)
	}
	if _, got, _ := asSaid(t, l, on("$", api.Datum{})); len(got) != 0 {
		t.Error(got)
	}
}

// P21.1, P21.2, P21.3: more routes than a plan may have, each with a handler of its own, and each told.
func TestManyRoutes(t *testing.T) {
	const many = 100000
	l := make([]api.Route, many)
	places := make([]int, many)
	var lines strings.Builder
	for i := range l {
		l[i], places[i] = api.Route{Filter: "a", Handler: many - i}, i
		lines.WriteString(strconv.Itoa(i) + " takes\n")
	}
	m := on("a", api.Datum{})
	if got := Find(l, m); got.Else || !slices.Equal(got.Routes, places) {
		t.Error("Find")
	}
	got := Handlers(l, m)
	for i := range got {
		got[i] = many - got[i]
	}
	if !slices.Equal(got, places) {
		t.Error("Handlers")
	}
	if Explain(l, m) != lines.String() {
		t.Error("Explain")
	}
}
