package want

import (
	"testing"

	"conduit/api"
)

const allSets = 1 << api.NumKinds

// plainly is what Plain is to answer of a set of kinds, by the words of P2.4 in their order.
func plainly(set uint32) api.Want {
	if set == 0 {
		return op(api.WAnd, anything(), op(api.WNot, anything()))
	}
	var l []api.Want
	for k := range api.NumKinds {
		doubled := k == api.KNoPtr && set>>api.KPtr&1 == 1
		if set>>k&1 == 1 && !doubled {
			l = append(l, kind(k))
		}
	}
	w := op(api.WOr, l...)
	if len(l) == 1 {
		w = l[0]
	}
	if set>>api.KPtr&1 == 1 && set>>api.KNoPtr&1 == 0 {
		w = op(api.WAnd, w, op(api.WNot, kind(api.KNoPtr)))
	}
	return w
}

// P2.4, P2.12: of every set of kinds that there is: the form, valid, of the same kinds, and its own Plain.
func TestPlainOfEverySet(t *testing.T) {
	for set := range uint32(allSets) {
		w := ofSet(set)
		p := Plain(w)
		if !same(p, plainly(set)) {
			t.Fatalf("Plain of %b: %s, not %s", set, written(p), written(plainly(set)))
		}
		if !Valid(p) || Kinds(p) != set || !same(Plain(p), p) {
			t.Fatalf("Plain of %b: %s is not plain", set, written(p))
		}
	}
}

// P2.4: as few as do it: without any one of its parts a WOr has other kinds.
func TestPlainHasNoneToSpare(t *testing.T) {
	r := newRandom(6)
	for range 500 {
		set := r.Uint32N(allSets)
		p := Plain(ofSet(set))
		if p.Op == api.WAnd {
			p = p.List[0]
		}
		if p.Op != api.WOr {
			continue
		}
		for i := range p.List {
			var rest uint32
			for j, q := range p.List {
				if j != i {
					rest |= Kinds(q)
				}
			}
			if rest == Kinds(p) {
				t.Fatalf("%s does not need its part %d", written(p), i)
			}
		}
	}
}

// P2.4, P2.12: patterns of any form have the Plain of their kinds.
func TestPlainOfPatterns(t *testing.T) {
	r := newRandom(7)
	for range 2000 {
		w := randomWant(r, 5)
		if p := Plain(w); !same(p, plainly(kindsOf(w))) {
			t.Fatalf("Plain(%s): %s", written(w), written(p))
		}
	}
	for _, c := range []struct {
		w  api.Want
		is string
	}{
		{kind(api.KNil), "0"}, {kind(api.KInt), "1"}, {kind(api.KPtr), "11"}, {kind(api.KNoPtr), "12"}, {kind(api.KUnit), "13"},
		{op(api.WOr, kind(api.KNoPtr), kind(api.KPtr)), "11"}, {op(api.WOr, kind(api.KNoPtr), kind(api.KNil)), "4(0 12)"},
		{op(api.WOr, kind(api.KUnit), kind(api.KPtr), kind(api.KInt)), "4(1 11 13)"},
		{anything(), "4(1 2 3 4 5 6 7 8 9 10 11 13)"}, {op(api.WOr, anything(), op(api.WNot, anything())), "4(0 1 2 3 4 5 6 7 8 9 10 11 13)"},
		{face(api.FOpening), "11"}, {face(api.FFailing), "4(10 11)"}, {face(api.FLabelled), "5"},
		{op(api.WAnd, face(api.FFailing), op(api.WNot, kind(api.KNoPtr))), "5(4(10 11) 6(12))"},
		{op(api.WAnd, kind(api.KPtr), op(api.WNot, kind(api.KNoPtr))), "5(11 6(12))"},
		{op(api.WNot, kind(api.KNoPtr)), "5(4(0 1 2 3 4 5 6 7 8 9 10 11 13) 6(12))"},
		{op(api.WAnd, kind(api.KInt), kind(api.KText)), "5(any 6(any))"},
	} {
		if got := written(Plain(c.w)); got != c.is {
			t.Errorf("Plain(%s): %s, not %s", written(c.w), got, c.is)
		}
	}
}
