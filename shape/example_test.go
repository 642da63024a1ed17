package shape

import (
	"testing"

	"conduit/api"
	"conduit/datum"
)

// mapped is one map of a value, as a text, and what is to come of it.
type mapped struct {
	op   int
	d    string
	want string
}

// play does maps, with the topic t, and holds what comes against what is written and against the chapter.
func play(t *testing.T, l ...mapped) {
	t.Helper()
	for _, c := range l {
		if got := show(asSaid(t, c.op, "t", read(t, c.d))); got != c.want {
			t.Errorf("%+v: %s", c, got)
		}
	}
}

// The chapter's example 1.
func TestExampleMap(t *testing.T) {
	play(t,
		mapped{api.MapDouble, "5", "10"},
		mapped{api.MapDouble, `"a"`, "panic assert 5"},
		mapped{api.MapDouble, "nil", "panic assert -1"},
		mapped{api.MapNot, "5", "panic assert 1"},
		mapped{api.MapOpen, "&nil", "panic nil 0"},
		mapped{api.MapSize, "true", "no method"},
		mapped{api.MapName, "#7", `"key 7"`},
	)
	if api.MAdd != 5 || api.KInt != 1 {
		t.Error("the numbers that are written above")
	}
}

// The chapter's example 2.
func TestExampleMaps(t *testing.T) {
	for _, c := range []struct {
		ops  []int
		d    string
		want string
	}{
		{[]int{api.MapList, api.MapSize}, "[1, 2]", "1"},
		{[]int{api.MapList, api.MapSize}, "nil", "1"},
		{[]int{api.MapOpen, api.MapDouble}, "&1(4)", "8"},
		{[]int{api.MapPair}, "5", `("t", 5)`},
	} {
		if got := show(mapsAsSaid(t, c.ops, "t", read(t, c.d))); got != c.want {
			t.Errorf("%+v: %s", c, got)
		}
	}
}

// The chapter's example 3.
func TestExampleDeep(t *testing.T) {
	deep := nested(api.Datum{}, api.MaxDeep-1)
	if _, n := datum.Parts(deep); n != api.MaxDeep || !datum.Valid(deep) {
		t.Fatal("a value that is not as deep as it may be")
	}
	if got := show(asSaid(t, api.MapList, "t", deep)); got != "no value" {
		t.Error(got)
	}
	if got := kindsAsSaid(t, api.MapDouble, 1<<api.KInt|1<<api.KText); got != 1<<api.KInt {
		t.Errorf("%b", got)
	}
}

// Chapter 20's example 5: what a map of a chain makes of a body, and what a filter lets through.
func TestExampleBuilt(t *testing.T) {
	play(t, mapped{api.MapDouble, "4", "8"})
	ints := api.Want{Op: api.WKind, Num: api.KInt}
	if Pass(ints, read(t, `"x"`)) || !Pass(ints, read(t, "4")) {
		t.Error("a filter of ints")
	}
}
