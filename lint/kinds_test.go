package lint

import (
	"strings"
	"testing"

	"conduit/api"
	"conduit/want"
)

// askAsSaid holds what is told of a pattern against the chapter, and against what is written.
func askAsSaid(t *testing.T, w api.Want, empty, full bool) {
	t.Helper()
	if Empty(w) != empty || Full(w) != full || chapterEmpty(w) != empty || chapterFull(w) != full {
		t.Errorf("%+v: %v, %v", w, Empty(w), Full(w))
	}
}

// P31.1: patterns as they are written: KNil counts, and the nil pointer is a kind as well.
func TestEmptyFull(t *testing.T) {
	for s, told := range map[string][2]bool{
		"any": {false, false}, "nil": {false, false}, "any | nil": {false, true}, "nil | any": {false, true}, "!any": {false, false}, "!nil": {false, false},
		"any & nil": {true, false}, "!(any | nil)": {true, false}, "!(any & nil)": {false, true}, "int | !int": {false, true}, "int & !int": {true, false},
		"text & int": {true, false}, "text | int": {false, false}, "text & sized": {false, false}, "text & opening": {true, false}, "whole": {false, false},
		"pointer & nopointer": {false, false}, "nopointer & !pointer": {true, false}, "pointer | !nopointer": {false, true}, "nopointer | !pointer": {false, false},
		"failing & opening & !pointer": {true, false}, "number & measured": {true, false}, "labelled & measured & !name": {true, false},
		"any & (nil | any) | nil": {false, true}, "!!(any | nil)": {false, true}, "unit & !unit": {true, false}, "unit | !unit": {false, true},
	} {
		askAsSaid(t, pattern(t, s), told[0], told[1])
	}
}

// P31.1: one kind is not none, and what lacks one kind has not all; a nil pointer is a value of the pointer's type, too.
func TestEachKind(t *testing.T) {
	all := op(api.WOr)
	for k := range api.NumKinds {
		askAsSaid(t, kind(k), false, false)
		askAsSaid(t, op(api.WNot, kind(k)), false, false)
		askAsSaid(t, op(api.WAnd, kind(k), op(api.WNot, kind(k))), true, false)
		askAsSaid(t, op(api.WOr, op(api.WNot, kind(k)), kind(k)), false, true)
		rest := op(api.WOr)
		for other := range api.NumKinds {
			if other != k {
				rest.List = append(rest.List, kind(other))
			}
		}
		askAsSaid(t, rest, false, k == api.KNoPtr)
		askAsSaid(t, op(api.WNot, rest), k == api.KNoPtr, false)
		all.List = append(all.List, kind(k))
	}
	askAsSaid(t, all, false, true)
	askAsSaid(t, op(api.WNot, all), true, false)
}

// P31.1: each pair of interfaces, and of kinds.
func TestPairs(t *testing.T) {
	var l []api.Want
	for f := range api.NumFaces {
		l = append(l, api.Want{Op: api.WFace, Num: f})
	}
	for k := range api.NumKinds {
		l = append(l, kind(k))
	}
	for _, a := range l {
		for _, b := range append(l, op(api.WAny)) {
			for _, o := range []int{api.WAnd, api.WOr} {
				for _, w := range []api.Want{op(o, a, b), op(o, a, op(api.WNot, b)), op(o, op(api.WNot, a), b)} {
					askAsSaid(t, w, chapterEmpty(w), chapterFull(w))
				}
			}
		}
	}
}

// P31.1: patterns as deep and as great as they may be.
func TestGreatPatterns(t *testing.T) {
	deep := op(api.WAnd, kind(api.KText), kind(api.KInt))
	for range api.MaxWant - 2 {
		deep = op(api.WNot, deep)
	}
	askAsSaid(t, deep, true, false)
	askAsSaid(t, deep.List[0], false, true)
	wide := op(api.WOr)
	for range api.MaxTokens - 3 {
		wide.List = append(wide.List, op(api.WAny))
	}
	askAsSaid(t, wide, false, false)
	wide.List = append(wide.List, kind(api.KNil))
	askAsSaid(t, wide, false, true)
	wide.Op = api.WAnd
	askAsSaid(t, wide, true, false)
}

// P31.1: any patterns.
func TestRandomPatterns(t *testing.T) {
	r := newRandom(1)
	empty, full := 0, 0
	for range 20000 {
		var b strings.Builder
		b.WriteString(pick(r, somePatterns...))
		for range r.IntN(4) {
			b.WriteString(pick(r, " | ", " & ", " & !", " | !") + "(" + pick(r, somePatterns...) + ")")
		}
		w := pattern(t, b.String())
		askAsSaid(t, w, chapterEmpty(w), chapterFull(w))
		if Empty(w) {
			empty++
		}
		if Full(w) {
			full++
		}
	}
	if min(empty, full) < 1000 {
		t.Errorf("%d were empty, %d full", empty, full)
	}
}

// A kind's bit stands at the kind's number, in the sets that chapter 2 tells, too.
func TestBits(t *testing.T) {
	bits := []kinds{ofNil, ofInt, ofKey, ofFloat, ofText, ofName, ofBool, ofBytes, ofList, ofPair, ofErr, ofPtr, ofNoPtr, ofUnit}
	var all kinds
	for k, bit := range bits {
		if k != api.KPtr && kindsOf(kind(k)) != bit {
			t.Errorf("kind %d: %b", k, bit)
		}
		all |= bit
	}
	if kindsOf(kind(api.KPtr)) != ofPtr|ofNoPtr || len(bits) != api.NumKinds || all != anyKind || noKind != 0 || uint32(anyKind) != want.Kinds(op(api.WNot, kind(api.KNil)))|1<<api.KNil {
		t.Errorf("%b", all)
	}
}
