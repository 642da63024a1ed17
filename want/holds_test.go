package want

import (
	"testing"

	"conduit/api"
	"conduit/datum"
)

// P2.2: every pattern without parts, of every kind of value.
func TestHoldsSingle(t *testing.T) {
	single := []api.Want{anything()}
	for k := range api.NumKinds {
		single = append(single, kind(k))
	}
	for f := range api.NumFaces {
		single = append(single, face(f))
	}
	for _, w := range single {
		for k, values := range samples(t) {
			for _, d := range values {
				if Holds(w, d) != agrees(w, k) {
					t.Errorf("Holds(%s, %s): %v", written(w), datum.Print(d), Holds(w, d))
				}
			}
		}
		if Kinds(w) != kindsOf(w) {
			t.Errorf("Kinds(%s): %b", written(w), Kinds(w))
		}
	}
}

// P2.2: a type is one, whatever lies in the value; KPtr and KNoPtr have one, KNil has none.
func TestHoldsTypes(t *testing.T) {
	for _, c := range []struct {
		w  api.Want
		d  string
		is bool
	}{
		{kind(api.KPtr), "&nil", true}, {kind(api.KPtr), "&1(nil)", true}, {kind(api.KNoPtr), "&nil", true}, {kind(api.KNoPtr), "&1(nil)", false}, {kind(api.KNoPtr), "&1(&nil)", false},
		{kind(api.KNil), "nil", true}, {kind(api.KNil), "&nil", false}, {kind(api.KNil), "{}", false}, {kind(api.KUnit), "nil", false},
		{kind(api.KInt), "#5", false}, {kind(api.KKey), "5", false}, {kind(api.KText), `@"x"`, false}, {kind(api.KName), `"x"`, false}, {kind(api.KBytes), `"x"`, false}, {kind(api.KList), "%00", false}, {kind(api.KPair), "[1, 2]", false},
		{anything(), "nil", false}, {anything(), "&nil", true}, {op(api.WNot, anything()), "nil", true}, {op(api.WNot, anything()), "&nil", false},
		{face(api.FOpening), "&nil", true}, {face(api.FFailing), "&nil", true}, {face(api.FSized), "nil", false}, {op(api.WNot, face(api.FSized)), "nil", true},
	} {
		if Holds(c.w, read(t, c.d)) != c.is {
			t.Errorf("Holds(%s, %s): %v", written(c.w), c.d, !c.is)
		}
	}
}

// P2.2, P2.9: patterns made of others, against the tables.
func TestHoldsRandom(t *testing.T) {
	r := newRandom(2)
	values := everyValue(t)
	for range 3000 {
		w := randomWant(r, 5)
		if Kinds(w) != kindsOf(w) {
			t.Fatalf("Kinds(%s): %b, not %b", written(w), Kinds(w), kindsOf(w))
		}
		for _, d := range values {
			if Holds(w, d) != agrees(w, d.Kind) {
				t.Fatalf("Holds(%s, %s): %v", written(w), datum.Print(d), Holds(w, d))
			}
		}
	}
}

// P2.2: the greatest patterns are answered, too.
func TestHoldsGreatest(t *testing.T) {
	deep := nots(api.MaxWant-1, kind(api.KInt))
	if !Holds(deep, read(t, `"x"`)) || Holds(deep, read(t, "5")) || Kinds(deep) != allSets-1-1<<api.KInt {
		t.Error("the deepest pattern")
	}
	l := make([]api.Want, api.MaxTokens-1)
	for i := range l {
		l[i] = face(api.FNumber)
	}
	l[len(l)-1] = kind(api.KUnit)
	last := op(api.WOr, l...)
	if !Holds(last, read(t, "{}")) || Holds(last, read(t, "true")) || Kinds(last) != 1<<api.KInt|1<<api.KFloat|1<<api.KUnit {
		t.Error("the broadest pattern")
	}
}

// P2.3: Covers and Meets, by the values of which they speak.
func TestCoversMeets(t *testing.T) {
	r := newRandom(3)
	values := everyValue(t)
	seen := [4]int{}
	for range 6000 {
		a, b := randomWant(r, 3), randomWant(r, 3)
		covers, meets := true, false
		for _, d := range values {
			x, y := agrees(a, d.Kind), agrees(b, d.Kind)
			covers = covers && (x || !y)
			meets = meets || x && y
		}
		if Covers(a, b) != covers || Meets(a, b) != meets {
			t.Fatalf("%s, %s: %v, %v", written(a), written(b), Covers(a, b), Meets(a, b))
		}
		if covers {
			seen[0]++
		}
		if meets {
			seen[1]++
		}
		if covers && !meets {
			seen[2]++
		}
		if meets && !covers {
			seen[3]++
		}
	}
	for i, n := range seen {
		if n == 0 {
			t.Errorf("case %d never came up", i)
		}
	}
}

// P2.3: what holds of nothing is covered by all, and meets nothing, itself neither.
func TestCoversNothing(t *testing.T) {
	nothing := op(api.WAnd, kind(api.KInt), kind(api.KText))
	for _, w := range []api.Want{nothing, anything(), kind(api.KNil), kind(api.KNoPtr), face(api.FWhole)} {
		if !Covers(w, nothing) || Meets(w, nothing) || Meets(nothing, w) {
			t.Errorf("%s and nothing", written(w))
		}
	}
	if Covers(nothing, kind(api.KNil)) || !Covers(kind(api.KPtr), kind(api.KNoPtr)) || Covers(kind(api.KNoPtr), kind(api.KPtr)) || !Meets(kind(api.KNoPtr), kind(api.KPtr)) {
		t.Error("nothing and nil, and the pointers")
	}
	if Covers(anything(), kind(api.KNil)) || Meets(anything(), kind(api.KNil)) || !Covers(anything(), face(api.FSized)) {
		t.Error("any has not nil")
	}
}

// P2.8: the first place whose pattern holds.
func TestFirst(t *testing.T) {
	r := newRandom(4)
	values := everyValue(t)
	for range 2000 {
		l := make([]api.Want, r.IntN(6))
		for i := range l {
			l[i] = randomWant(r, 2)
		}
		for _, d := range values {
			is := -1
			for i := len(l) - 1; i >= 0; i-- {
				if agrees(l[i], d.Kind) {
					is = i
				}
			}
			if got := First(l, d); got != is {
				t.Fatalf("%d patterns, %s: %d, not %d", len(l), datum.Print(d), got, is)
			}
		}
	}
	if First(nil, read(t, "5")) != -1 || First([]api.Want{}, read(t, "nil")) != -1 {
		t.Error("no patterns")
	}
}

// P2.9: Kinds of what is made of others are those of the parts put together; Covers is an order up to Kinds.
func TestSets(t *testing.T) {
	r := newRandom(5)
	const all = allSets - 1
	for range 3000 {
		a, b, c := randomWant(r, 4), randomWant(r, 4), randomWant(r, 4)
		x, y, z := Kinds(a), Kinds(b), Kinds(c)
		if Kinds(op(api.WOr, a, b, c)) != x|y|z || Kinds(op(api.WAnd, a, b, c)) != x&y&z || Kinds(op(api.WNot, a)) != all&^x {
			t.Fatalf("%s, %s, %s", written(a), written(b), written(c))
		}
		if !Covers(a, a) || Covers(a, b) && Covers(b, a) != (x == y) || Covers(a, b) && Covers(b, c) && !Covers(a, c) {
			t.Fatalf("%s, %s, %s: no order", written(a), written(b), written(c))
		}
		if Meets(a, b) != Meets(b, a) || Meets(a, b) != (Kinds(op(api.WAnd, a, b)) != 0) {
			t.Fatalf("%s, %s: Meets", written(a), written(b))
		}
	}
}
