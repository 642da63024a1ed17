package route

import (
	"slices"
	"testing"

	"conduit/api"
)

// chapterRoutes is the routes of the chapter's examples.
func chapterRoutes() []api.Route {
	return []api.Route{{Filter: "a/#", Want: kind(api.KText)}, {Filter: "a/+", Handler: 1}, {Filter: "#", Handler: 2, Else: true}}
}

// The chapter's example 1.
func TestExampleFind(t *testing.T) {
	for _, c := range []struct {
		topic, body string
		routes      []int
		isElse      bool
	}{
		{"a/b", `"x"`, []int{0, 1}, false},
		{"a/b/c", "5", []int{2}, true},
		{"a", `"x"`, []int{0}, false},
		{"$s", "5", nil, false},
	} {
		taken, handlers, _ := asSaid(t, chapterRoutes(), on(c.topic, read(t, c.body)))
		if !slices.Equal(taken.Routes, c.routes) || taken.Else != c.isElse || !slices.Equal(handlers, c.routes) {
			t.Errorf("%s %s: %v, %v", c.topic, c.body, taken, handlers)
		}
	}
}

// The chapter's example 2.
func TestExampleExplain(t *testing.T) {
	if _, _, lines := asSaid(t, chapterRoutes(), on("a/b", read(t, "5"))); lines != "0 type\n1 takes\n2 spare\n" {
		t.Errorf("%q", lines)
	}
}

// The fifth of the ten examples of the whole.
func TestExampleOfTheWhole(t *testing.T) {
	const a, b = 0, 1
	l := []api.Route{{Filter: "a/#", Want: kind(api.KText), Handler: a}, {Filter: "#", Handler: b, Else: true}}
	for _, c := range []struct {
		topic, body string
		handlers    []int
	}{
		{"a/1", `"s"`, []int{a}}, {"a/1", "5", []int{b}}, {"$sys", "5", nil}, {"$sys", `"s"`, nil}, {"$sys", "nil", nil},
	} {
		if _, got, _ := asSaid(t, l, on(c.topic, read(t, c.body))); !slices.Equal(got, c.handlers) {
			t.Errorf("%s %s: %v", c.topic, c.body, got)
		}
	}
}
