package shape

import (
	"slices"
	"testing"

	"conduit/api"
	"conduit/datum"
	"conduit/want"
)

// holds is chapter 2's, of patterns of a kind, an interface of one method, and what is made of these.
func holds(w api.Want, kind int) bool {
	some := func(p api.Want) bool { return holds(p, kind) }
	switch w.Op {
	case api.WAny:
		return kind != api.KNil
	case api.WKind:
		return kind == w.Num || w.Num == api.KPtr && kind == api.KNoPtr
	case api.WFace:
		return slices.Contains(map[int][]int{api.FSized: sized, api.FNamed: named, api.FOpening: opening, api.FAdding: adding}[w.Num], kind)
	case api.WOr:
		return slices.ContainsFunc(w.List, some)
	case api.WAnd:
		return !slices.ContainsFunc(w.List, func(p api.Want) bool { return !some(p) })
	}
	return !some(w.List[0])
}

func patterns() []api.Want {
	l := []api.Want{{Op: api.WAny}}
	for k := range api.NumKinds {
		l = append(l, api.Want{Op: api.WKind, Num: k})
	}
	for _, f := range []int{api.FSized, api.FNamed, api.FOpening, api.FAdding} {
		l = append(l, api.Want{Op: api.WFace, Num: f})
	}
	for i, w := range slices.Clone(l) {
		other := l[(i*7+3)%len(l)]
		l = append(l, api.Want{Op: api.WNot, List: []api.Want{w}}, api.Want{Op: api.WOr, List: []api.Want{w, other}}, api.Want{Op: api.WAnd, List: []api.Want{w, {Op: api.WNot, List: []api.Want{other}}}})
	}
	return l
}

// P17.1: a filter lets through what its pattern holds of.
func TestPass(t *testing.T) {
	for _, w := range patterns() {
		for _, d := range values() {
			if got := Pass(w, d); got != holds(w, d.Kind) || got != want.Holds(w, d) {
				t.Errorf("%+v of %s: %v", w, datum.Print(d), got)
			}
		}
	}
}

// P17.1: a nil interface passes by nothing but its own kind, a nil pointer as any pointer.
func TestPassNil(t *testing.T) {
	none, noPointer := read(t, "nil"), read(t, "&nil")
	for k := range api.NumKinds {
		w := api.Want{Op: api.WKind, Num: k}
		if Pass(w, none) != (k == api.KNil) || Pass(w, noPointer) != (k == api.KPtr || k == api.KNoPtr) {
			t.Errorf("a filter of kind %d", k)
		}
	}
	if Pass(api.Want{Op: api.WAny}, none) || !Pass(api.Want{Op: api.WAny}, noPointer) {
		t.Error("a filter of any")
	}
}
