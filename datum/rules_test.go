package datum

import (
	"slices"
	"testing"

	"conduit/api"
)

// spared is d with spare room in each list, in which something lies.
func spared(d api.Datum) api.Datum {
	l := make([]api.Datum, 0, len(d.List)+2)
	for _, p := range d.List {
		l = append(l, spared(p))
	}
	d.List = append(l, dText("spare"), dText("room"))[:len(l)]
	return d
}

func spareStays(d api.Datum) bool {
	spare := d.List[len(d.List):cap(d.List)]
	if len(spare) != 2 || spare[0].Text != "spare" || spare[1].Text != "room" {
		return false
	}
	return !slices.ContainsFunc(d.List, func(p api.Datum) bool { return !spareStays(p) })
}

// callAll makes every call with the two values.
func callAll(a, b api.Datum) []any {
	var out []any
	put := func(l ...any) { out = append(out, l...) }
	put(Valid(a))
	n, deep := Parts(a)
	is, e1 := Equal(a, b)
	g, e2 := Group([]api.Datum{a, b, a})
	length, e3 := Length(a)
	label, e4 := Label(a)
	words, e5 := Words(a)
	inside, e6 := Open(a)
	less, e7 := Less(a, b)
	sum, e8 := Add(a, b)
	put(n, deep, Same(a, b), is, e1, e2, length, e3, label, e4, words, e5, Print(inside), e6, less, e7, Print(sum), e8, Print(a))
	for _, at := range g {
		put(at)
	}
	return out
}

// 0.3, 0.4: the same again for the same, spare room or not; what is handed in stays as it is, spare room and all.
func TestArgumentsStay(t *testing.T) {
	r := newRandom(3)
	for range 3000 {
		a, b := r.value(4), r.value(4)
		c, d := spared(a), spared(b)
		first := callAll(a, b)
		if !slices.Equal(first, callAll(c, d)) || !slices.Equal(first, callAll(c, d)) {
			t.Fatalf("%s, %s: not the same again", Print(a), Print(b))
		}
		if !Same(a, c) || !Same(b, d) || !spareStays(c) || !spareStays(d) {
			t.Fatalf("%s, %s: changed", Print(a), Print(b))
		}
	}
}

// scribble writes over all of a value's lists and their spare room.
func scribble(d api.Datum) {
	for i := range d.List {
		scribble(d.List[i])
	}
	l := d.List[:cap(d.List)]
	for i := range l {
		l[i] = dText("scribbled")
	}
}

// 0.4: answers are new memory, no two lists of one share any.
func TestAnswersAreNew(t *testing.T) {
	r := newRandom(6)
	for range 3000 {
		d := r.value(4)
		p := spared(dPtr(1, d))
		got, _ := Open(p)
		scribble(got)
		if !Same(p, dPtr(1, d)) || !spareStays(p) {
			t.Fatalf("what Open gave of %s is a part of it", Print(p))
		}
		again, _ := Open(p)
		if !Same(again, d) {
			t.Fatalf("Open again: %s", Print(again))
		}
		l := dList(d, d, d)
		twice := read(t, Print(l))
		scribble(twice.List[0])
		scribble(twice.List[2])
		if !Same(twice.List[1], d) {
			t.Fatalf("the parts of %s share memory", Print(l))
		}
	}
}

// 0.5: beside an error every other result is zero (those that are wrong by more than one thing, too).
func TestZeroBesideErrors(t *testing.T) {
	for _, a := range append(oneOfEach(), dPair(dList(), dNil)) {
		for _, b := range oneOfEach() {
			is, e1 := Equal(a, b)
			g, e2 := Group([]api.Datum{dInt(1), a, b})
			length, e3 := Length(a)
			label, e4 := Label(a)
			words, e5 := Words(a)
			inside, e6 := Open(a)
			less, e7 := Less(a, b)
			sum, e8 := Add(a, b)
			if e1 != api.OK && is || e2 != api.OK && len(g) > 0 || e3 != api.OK && length != 0 || e4 != api.OK && label != "" || e5 != api.OK && words != "" || e6 != api.OK && !Same(inside, dNil) || e7 != api.OK && less || e8 != api.OK && !Same(sum, dNil) {
				t.Errorf("%s, %s", Print(a), Print(b))
			}
		}
	}
}
