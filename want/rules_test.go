package want

import (
	"slices"
	"testing"

	"conduit/api"
	"conduit/datum"
)

// spared is w with spare room in each list, in which something lies that would change every answer.
func spared(w api.Want) api.Want {
	l := make([]api.Want, 0, len(w.List)+2)
	for _, p := range w.List {
		l = append(l, spared(p))
	}
	w.List = append(l, anything(), kind(99))[:len(l)]
	return w
}

func spareStays(w api.Want) bool {
	spare := w.List[len(w.List):cap(w.List)]
	if len(spare) != 2 || !same(spare[0], anything()) || !same(spare[1], kind(99)) {
		return false
	}
	return !slices.ContainsFunc(w.List, func(p api.Want) bool { return !spareStays(p) })
}

// callAll makes every call that takes patterns.
func callAll(a, b api.Want, d api.Datum) []any {
	return []any{Valid(a), Holds(a, d), Kinds(a), Covers(a, b), Meets(a, b), written(Plain(a)), First([]api.Want{a, b}, d)}
}

// 0.3, 0.4, 0.8: the same again for the same, spare room or not; what is handed in stays as it is.
func TestArgumentsStay(t *testing.T) {
	r := newRandom(8)
	values := everyValue(t)
	for range 2000 {
		a, b := randomWant(r, 4), randomWant(r, 4)
		c, d := spared(a), spared(b)
		v := values[r.IntN(len(values))]
		first := callAll(a, b, v)
		if !slices.Equal(first, callAll(c, d, v)) || !slices.Equal(first, callAll(c, d, v)) {
			t.Fatalf("%s, %s: not the same again", written(a), written(b))
		}
		if !same(a, c) || !same(b, d) || !spareStays(c) || !spareStays(d) {
			t.Fatalf("%s, %s: changed", written(a), written(b))
		}
	}
}

// scribble writes over all of a pattern's lists and their spare room.
func scribble(w api.Want) {
	for _, p := range w.List {
		scribble(p)
	}
	for i := range w.List[:cap(w.List)] {
		w.List[:cap(w.List)][i] = kind(-7)
	}
}

// 0.4: what is handed out is new, each time, and no two lists of it are one.
func TestPatternsAreNew(t *testing.T) {
	for set := uint32(0); set < allSets; set += 7 {
		w := spared(Plain(ofSet(set)))
		first, second := Plain(w), Plain(w)
		for i := range first.List {
			rest := slices.Clone(first.List)
			scribble(first.List[i])
			for j := range rest {
				if j != i && !same(rest[j], plainly(set).List[j]) {
					t.Fatalf("the parts of Plain of %b share memory", set)
				}
			}
			first = Plain(w)
		}
		scribble(first)
		if !same(second, plainly(set)) || !same(Plain(w), plainly(set)) || !same(w, plainly(set)) || !spareStays(w) {
			t.Fatalf("Plain of %b is not new", set)
		}
	}
	for f := range api.NumFaces {
		l := Methods(f)
		for i := range l[:cap(l)] {
			l[:cap(l)][i] = 77
		}
		if !slices.Equal(Methods(f), faceMethods[f]) {
			t.Errorf("Methods(%d) is not new", f)
		}
	}
}

// room is d with spare room in each list.
func room(d api.Datum) api.Datum {
	l := make([]api.Datum, 0, len(d.List)+1)
	for _, p := range d.List {
		l = append(l, room(p))
	}
	d.List = append(l, api.Datum{Kind: api.KText, Text: "spare"})[:len(l)]
	return d
}

func roomStays(d api.Datum) bool {
	spare := d.List[len(d.List):cap(d.List)]
	return len(spare) == 1 && spare[0].Text == "spare" && !slices.ContainsFunc(d.List, func(p api.Datum) bool { return !roomStays(p) })
}

func scribbleValue(d api.Datum) {
	for _, p := range d.List {
		scribbleValue(p)
	}
	for i := range d.List[:cap(d.List)] {
		d.List[:cap(d.List)][i] = api.Datum{Kind: api.KText, Text: "scribbled"}
	}
}

// 0.4: a value that is asserted comes out as new memory, and the one that went in stays.
func TestValuesAreNew(t *testing.T) {
	for _, d := range everyValue(t) {
		before := datum.Print(d)
		for k := range api.NumKinds {
			in := room(d)
			a, ok := To(in, k)
			b, _, e := Must(in, k)
			scribbleValue(a)
			if ok && e == api.OK && datum.Print(b) != before {
				t.Errorf("%s to %d: To and Must share memory", before, k)
			}
			scribbleValue(b)
			if datum.Print(in) != before || !roomStays(in) {
				t.Errorf("%s to %d: what came out is a part of what went in", before, k)
			}
			for f := range api.NumFaces {
				Face(in, f)
				MustFace(in, f)
				First([]api.Want{face(f), kind(k)}, in)
				Holds(face(f), in)
			}
			if datum.Print(in) != before || !roomStays(in) {
				t.Errorf("%s was changed", before)
			}
		}
	}
}
