package shape

import (
	"slices"
	"testing"

	"conduit/api"
	"conduit/datum"
)

// P17.3: no maps, and what comes is what there was.
func TestNoMaps(t *testing.T) {
	for _, ops := range [][]int{nil, {}, roomyOps(nil)} {
		for _, d := range slices.Concat(values(), []api.Datum{wide(api.MaxItems), nested(number(5), api.MaxDeep-1)}) {
			if got := mapsAsSaid(t, ops, "t", d); !got.Has || !datum.Same(got.Body, d) {
				t.Errorf("%.100s became %.100s", datum.Print(d), show(got))
			}
		}
	}
}

// P17.3: one behind the other, in their order, up to the first that fails.
func TestMapsInOrder(t *testing.T) {
	for _, c := range []struct {
		ops  []int
		d    string
		want string
	}{
		{[]int{api.MapDouble, api.MapDouble, api.MapDouble}, "3", "24"},
		{[]int{api.MapList, api.MapPair}, "5", `("t", [5])`},
		{[]int{api.MapPair, api.MapList}, "5", `[("t", 5)]`},
		{[]int{api.MapPair, api.MapPair}, "5", `("t", ("t", 5))`},
		{[]int{api.MapDouble, api.MapKey, api.MapName, api.MapSize, api.MapDouble}, "50", "14"},
		{[]int{api.MapKey, api.MapDouble}, "5", "panic assert 5"},
		{[]int{api.MapKey, api.MapKey}, `"a"`, `@"a"`},
		{[]int{api.MapNot, api.MapNot}, "true", "true"},
		{[]int{api.MapOpen, api.MapOpen, api.MapOpen}, "&1(&2(nil))", "panic assert -1"},
		{[]int{api.MapOpen, api.MapOpen}, "&1(&nil)", "panic nil 0"},
		{[]int{api.MapOpen, api.MapSize}, "&1(&nil)", "0"},
		{[]int{api.MapSize, api.MapOpen}, "&nil", "panic assert 3"},
		{[]int{api.MapSize, api.MapName, api.MapNot}, "&nil", "no method"},
		{[]int{api.MapNot, api.MapName}, "5", "panic assert 1"},
		{[]int{api.MapName, api.MapNot}, "5", "no method"},
		{[]int{99, api.MapNot}, "5", "no method"},
		{[]int{api.MapList, 0}, "5", "no method"},
		{[]int{api.MapKey, api.MapKey, -1, api.MapNot}, "5", "no method"},
	} {
		if got := show(mapsAsSaid(t, c.ops, "t", read(t, c.d))); got != c.want {
			t.Errorf("%+v: %s", c, got)
		}
	}
}

// P17.3: laid around each other up to the bound, and no further.
func TestMapsUpToTheBound(t *testing.T) {
	for _, op := range []int{api.MapList, api.MapPair} {
		for n := range api.MaxDeep + 3 {
			got := mapsAsSaid(t, slices.Repeat([]int{op}, n), "t", number(5))
			if n < api.MaxDeep && !got.Has || n >= api.MaxDeep && show(got) != "no value" {
				t.Errorf("%d times %d: %s", n, op, show(got))
			}
		}
	}
}

// P17.3: all two maps, of every value.
func TestTwoMaps(t *testing.T) {
	for _, first := range anyOps() {
		for _, second := range anyOps() {
			for _, d := range values() {
				mapsAsSaid(t, []int{first, second}, "t", d)
			}
		}
	}
}

// P17.3: a long row over a great value is gone through in a time that its length tells.
func TestLongRow(t *testing.T) {
	const many = 2000000
	great := wide(api.MaxItems)
	if got := Maps(slices.Repeat([]int{api.MapKey}, many), "t", great); !datum.Same(got.Body, great) {
		t.Error("a value that became another one")
	}
	ops := slices.Repeat([]int{api.MapDouble, api.MapList, api.MapSize}, many/3)
	if got := show(Maps(ops, "t", number(7))); got != "1" {
		t.Error(got)
	}
	if got := show(Maps(append(ops, api.MapNot), "t", number(7))); got != "panic assert 1" {
		t.Error(got)
	}
}

// P17.3: rows of anything.
func TestRandomRows(t *testing.T) {
	r := newRandom(2)
	good := 0
	for range 50000 {
		if mapsAsSaid(t, randomOps(r), randomTopic(r), randomValue(r, 5)).Has {
			good++
		}
	}
	if good < 10000 {
		t.Errorf("%d rows came to an end", good)
	}
}
