package route

import (
	"slices"
	"strings"
	"testing"

	"conduit/api"
)

// P21.1: which take it, by their places; Else ones just where no other one agrees.
func TestFindTurns(t *testing.T) {
	yes, no := api.Route{Filter: "a"}, api.Route{Filter: "b"}
	rest, noRest := api.Route{Filter: "a", Else: true}, api.Route{Filter: "b", Else: true}
	wrong, wrongRest := api.Route{Filter: "a", Want: kind(api.KText)}, api.Route{Filter: "a", Want: kind(api.KText), Else: true}
	for i, c := range []struct {
		l      []api.Route
		routes []int
		isElse bool
	}{
		{nil, nil, false},
		{[]api.Route{yes}, []int{0}, false},
		{[]api.Route{no}, nil, false},
		{[]api.Route{rest}, []int{0}, true},
		{[]api.Route{noRest}, nil, false},
		{[]api.Route{wrong}, nil, false},
		{[]api.Route{wrongRest}, nil, false},
		{[]api.Route{yes, yes, yes}, []int{0, 1, 2}, false},
		{[]api.Route{no, yes, no, yes}, []int{1, 3}, false},
		{[]api.Route{rest, yes}, []int{1}, false},
		{[]api.Route{yes, rest}, []int{0}, false},
		{[]api.Route{rest, rest, rest, yes, rest}, []int{3}, false},
		{[]api.Route{rest, no, rest, noRest, rest}, []int{0, 2, 4}, true},
		{[]api.Route{rest, wrong, wrongRest, rest}, []int{0, 3}, true},
		{[]api.Route{no, noRest, wrong, wrongRest}, nil, false},
	} {
		if taken, _, _ := asSaid(t, c.l, on("a", read(t, "5"))); !slices.Equal(taken.Routes, c.routes) || taken.Else != c.isElse {
			t.Errorf("%d: %v", i, taken)
		}
	}
}

// P21.1: every small filter against every name.
func TestFindTopics(t *testing.T) {
	for _, f := range someFilters {
		for _, name := range someNames {
			for _, isElse := range []bool{false, true} {
				taken, _, _ := asSaid(t, []api.Route{{Filter: f, Else: isElse}}, on(name, api.Datum{}))
				if has := len(taken.Routes) == 1; has != chapterHas(f, name) || taken.Else != (has && isElse) {
					t.Errorf("%s of %s: %v", f, name, taken)
				}
			}
		}
	}
}

// P21.1: topics and filters of as many bytes as they may have.
func TestFindLongTopics(t *testing.T) {
	long := strings.Repeat("a", api.MaxBytes)
	levels := strings.Repeat("/", api.MaxBytes)
	l := []api.Route{{Filter: long}, {Filter: long[1:]}, {Filter: levels}, {Filter: levels[1:]}, {Filter: "+"}, {Filter: "#", Handler: 1}, {Filter: levels[1:] + "#"}, {Filter: long[2:] + "/#"}}
	for _, c := range []struct {
		topic  string
		routes []int
	}{{long, []int{0, 4, 5}}, {long[1:], []int{1, 4, 5}}, {levels, []int{2, 5, 6}}, {levels[1:], []int{3, 5, 6}}, {long[2:], []int{4, 5, 7}}} {
		if taken := Find(l, on(c.topic, api.Datum{})); !slices.Equal(taken.Routes, c.routes) || taken.Else {
			t.Errorf("%d bytes, %.5q: %v", len(c.topic), c.topic, taken)
		}
	}
}

// P21.1: every kind against the pattern of each kind and each interface, and against what these are not.
func TestFindTypes(t *testing.T) {
	wants := []api.Want{{}, anything(), op(api.WNot, anything())}
	for k := range api.NumKinds {
		wants = append(wants, kind(k), op(api.WNot, kind(k)), op(api.WOr, kind(k), kind(api.KInt)), op(api.WAnd, kind(k), face(api.FSized)))
	}
	for f := range api.NumFaces {
		wants = append(wants, face(f), op(api.WNot, face(f)))
	}
	for _, d := range samples(t) {
		for _, w := range wants {
			taken, _, _ := asSaid(t, []api.Route{{Filter: "a", Want: w}}, on("a", d))
			if len(taken.Routes) == 1 != (isZero(w) || chapterHolds(w, d.Kind)) {
				t.Errorf("%s of kind %d: %v", showWant(w), d.Kind, taken)
			}
		}
	}
}

// P21.1: a pointer's type has both pointers, a nil pointer's kind that alone.
func TestFindPointers(t *testing.T) {
	l := []api.Route{{Filter: "a", Want: kind(api.KPtr)}, {Filter: "a", Want: kind(api.KNoPtr)}, {Filter: "a", Want: op(api.WAnd, kind(api.KPtr), op(api.WNot, kind(api.KNoPtr)))}}
	for _, c := range []struct {
		body   string
		routes []int
	}{{"&nil", []int{0, 1}}, {"&1(nil)", []int{0, 2}}, {"&1(&nil)", []int{0, 2}}, {"nil", nil}} {
		if taken, _, _ := asSaid(t, l, on("a", read(t, c.body))); !slices.Equal(taken.Routes, c.routes) {
			t.Errorf("%s: %v", c.body, taken)
		}
	}
}

// P21.1: a pattern looks at the body, not at what lies in it.
func TestFindOutermost(t *testing.T) {
	l := []api.Route{{Filter: "a", Want: kind(api.KText)}}
	for _, s := range []string{`["x"]`, `("x", "x")`, `&1("x")`} {
		if taken, _, _ := asSaid(t, l, on("a", read(t, s))); len(taken.Routes) > 0 {
			t.Errorf("%s: %v", s, taken)
		}
	}
}

// P21.1: patterns as deep and as great as they may be.
func TestFindGreatPatterns(t *testing.T) {
	deep := kind(api.KText)
	for range api.MaxWant - 1 {
		deep = op(api.WNot, deep)
	}
	wide := op(api.WOr)
	for range api.MaxTokens - 2 {
		wide.List = append(wide.List, kind(api.KInt))
	}
	wide.List = append(wide.List, kind(api.KText))
	l := []api.Route{{Filter: "a", Want: deep}, {Filter: "a", Want: wide}}
	for _, c := range []struct {
		body   string
		routes []int
	}{{`"x"`, []int{1}}, {"5", []int{0, 1}}, {"nil", []int{0}}} {
		if taken, _, _ := asSaid(t, l, on("a", read(t, c.body))); !slices.Equal(taken.Routes, c.routes) {
			t.Errorf("%s: %v", c.body, taken)
		}
	}
}

// P21.1: a topic is not a reply's, and no other field of a message plays a part.
func TestFindOtherFields(t *testing.T) {
	r := newRandom(1)
	bodies := samples(t)
	for range 5000 {
		l, m := randomRoutes(r, 8), randomMsg(r, bodies)
		taken, _, _ := asSaid(t, l, m)
		if bare := Find(l, on(m.Topic, m.Body)); !same(taken, bare) {
			t.Fatalf("%s, %s: %v, %v", show(l), showMsg(m), taken, bare)
		}
	}
}

// P21.1, P21.2, P21.3: any routes and messages.
func TestRandom(t *testing.T) {
	r := newRandom(2)
	bodies := samples(t)
	first, rest, nobody := 0, 0, 0
	for range 50000 {
		switch taken, _, _ := asSaid(t, randomRoutes(r, 12), randomMsg(r, bodies)); {
		case taken.Else:
			rest++
		case len(taken.Routes) > 0:
			first++
		default:
			nobody++
		}
	}
	if min(first, rest, nobody) < 1000 {
		t.Errorf("%d were taken, %d by Else, %d by nobody", first, rest, nobody)
	}
}

// P21.1, P21.2, P21.3: all rows of up to four routes of seven sorts.
func TestSmall(t *testing.T) {
	sorts := []api.Route{
		{Filter: "a"}, {Filter: "b"}, {Filter: "+", Want: kind(api.KText), Handler: 1}, {Filter: "#", Want: anything(), Handler: 2},
		{Filter: "a", Else: true}, {Filter: "#", Handler: 1, Else: true}, {Filter: "b", Want: kind(api.KNil), Handler: 2, Else: true},
	}
	msgs := []api.Msg{on("a", read(t, "5")), on("a", read(t, `"x"`)), on("b", read(t, "nil")), on("b", read(t, "5")), on("$", read(t, "5"))}
	rows := [][]api.Route{nil}
	for range 4 {
		for _, l := range rows {
			for _, m := range msgs {
				asSaid(t, l, m)
			}
		}
		var next [][]api.Route
		for _, l := range rows {
			for _, s := range sorts {
				next = append(next, slices.Concat(l, []api.Route{s}))
			}
		}
		rows = next
	}
	for _, l := range rows {
		for _, m := range msgs {
			asSaid(t, l, m)
		}
	}
}
