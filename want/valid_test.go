package want

import (
	"testing"

	"conduit/api"
)

// nots is w with so many WNot around it.
func nots(n int, w api.Want) api.Want {
	for range n {
		w = op(api.WNot, w)
	}
	return w
}

// broad is a pattern with so many parts, two deep.
func broad(parts int) api.Want {
	l := make([]api.Want, parts-1)
	for i := range l {
		l[i] = kind(i % api.NumKinds)
	}
	return op(api.WOr, l...)
}

// P2.1: each Op with each form.
func TestValidForms(t *testing.T) {
	two := []api.Want{anything(), kind(api.KInt)}
	for o := -2; o <= api.NumWants+2; o++ {
		for n := -2; n <= api.NumKinds+2; n++ {
			for _, l := range [][]api.Want{nil, {}, two[:1], two, append(two, two...)} {
				w := api.Want{Op: o, Num: n, List: l}
				is := false
				switch o {
				case api.WAny:
					is = n == 0 && len(l) == 0
				case api.WKind:
					is = n >= api.KNil && n <= api.KUnit && len(l) == 0
				case api.WFace:
					is = n >= api.FSized && n <= api.FWhole && len(l) == 0
				case api.WOr, api.WAnd:
					is = n == 0 && len(l) >= 2
				case api.WNot:
					is = n == 0 && len(l) == 1
				}
				if Valid(w) != is {
					t.Errorf("Op %d, Num %d, %d parts: %v", o, n, len(l), !is)
				}
			}
		}
	}
	for _, far := range []int{1 << 62, -1 << 62, 1 << 32, 1<<32 + 1} {
		if Valid(api.Want{Op: far}) || Valid(kind(far)) || Valid(face(far)) || Valid(api.Want{Op: api.WAny, Num: far}) || Valid(api.Want{Op: api.WNot, Num: far, List: two[:1]}) {
			t.Errorf("%d is no number of anything", far)
		}
	}
}

// P2.1: a wrong part makes the whole wrong, wherever it stands.
func TestValidParts(t *testing.T) {
	wrong := []api.Want{{}, {Op: api.NumWants}, kind(api.NumKinds), kind(-1), face(api.NumFaces), face(-1), op(api.WOr, anything()), op(api.WNot), op(api.WAnd), op(api.WAny, anything()), op(api.WKind, anything())}
	for _, w := range wrong {
		for _, around := range []api.Want{
			op(api.WNot, w), op(api.WOr, w, anything()), op(api.WOr, anything(), w), op(api.WAnd, anything(), anything(), w), nots(3, op(api.WAnd, kind(1), op(api.WOr, w, kind(2)))),
		} {
			if Valid(w) || Valid(around) {
				t.Errorf("%+v in %s is valid", w, written(around))
			}
		}
	}
	r := newRandom(1)
	for range 2000 {
		if w := randomWant(r, 5); !Valid(w) {
			t.Fatalf("%s is not valid", written(w))
		}
	}
}

// P2.1: MaxWant deep, and no deeper, however it came to be so deep.
func TestValidDepth(t *testing.T) {
	for _, c := range []struct {
		w  api.Want
		is bool
	}{
		{nots(api.MaxWant-1, anything()), true},
		{nots(api.MaxWant, anything()), false},
		{nots(api.MaxWant-2, op(api.WOr, anything(), kind(0))), true},
		{nots(api.MaxWant-1, op(api.WOr, anything(), kind(0))), false},
		{op(api.WAnd, anything(), nots(api.MaxWant-2, face(0))), true},
		{op(api.WAnd, anything(), nots(api.MaxWant-1, face(0))), false},
		{op(api.WAnd, nots(api.MaxWant-2, face(0)), nots(api.MaxWant-2, face(0))), true},
	} {
		if Valid(c.w) != c.is {
			t.Errorf("%s: %v", written(c.w), !c.is)
		}
	}
}

// P2.1: MaxTokens parts, and no more.
func TestValidMany(t *testing.T) {
	half := api.MaxTokens / 2
	for _, c := range []struct {
		w  api.Want
		is bool
	}{
		{broad(api.MaxTokens), true},
		{broad(api.MaxTokens + 1), false},
		{op(api.WAnd, broad(half), broad(half-1)), true},
		{op(api.WAnd, broad(half), broad(half)), false},
		{op(api.WNot, broad(api.MaxTokens-1)), true},
		{op(api.WNot, broad(api.MaxTokens)), false},
	} {
		if Valid(c.w) != c.is {
			t.Errorf("%d parts at the top: %v", len(c.w.List), !c.is)
		}
	}
}

// P2.1, 0.1: any pattern is answered, one that stands in itself or shares its parts over and over among them.
func TestValidEnds(t *testing.T) {
	itself := make([]api.Want, 2)
	itself[0] = op(api.WAnd, itself...)
	itself[1] = op(api.WOr, itself...)
	itself[0].List = itself
	itself[1].List = itself
	if Valid(itself[0]) {
		t.Error("a pattern that stands in itself is valid")
	}
	w := anything()
	for range 100 {
		w = op(api.WOr, w, w)
	}
	if Valid(w) {
		t.Error("2^101 - 1 parts are too many")
	}
}
