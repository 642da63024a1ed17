package shape

import (
	"slices"
	"testing"

	"conduit/api"
	"conduit/datum"
)

// P17.5: the kind of what comes is one of those that are told of the kind alone; where there is none, nothing comes.
func TestKindsAreThoseOfMaps(t *testing.T) {
	r := newRandom(4)
	for range 50000 {
		op, d := pick(r, anyOps()...), randomValue(r, 4)
		kinds := Kinds(op, 1<<d.Kind)
		got := Map(op, randomTopic(r), d)
		if got.Has != (got.Err == api.OK) || got.Has && kinds>>got.Body.Kind&1 == 0 || kinds == 0 && got.Err == api.OK {
			t.Fatalf("map %d of %s: %s, but kinds %b", op, datum.Print(d), show(got), kinds)
		}
	}
}

// P17.4, P17.5: each kind that is told comes of some value.
func TestNoKindIsToldInVain(t *testing.T) {
	for op := range api.NumMaps {
		var came [api.NumKinds]uint32
		for _, d := range values() {
			if got := Map(op, "t", d); got.Has {
				came[d.Kind] |= 1 << got.Body.Kind
			}
		}
		for k, kinds := range came {
			if got := Kinds(op, 1<<k); got != kinds {
				t.Errorf("map %d of kind %d: %b came, and %b is told", op, k, kinds, got)
			}
		}
	}
}

// P17.4: of several kinds it is what is told of each alone.
func TestKindsOfEach(t *testing.T) {
	r := newRandom(5)
	for range 20000 {
		op, a, b := pick(r, anyOps()...), r.Uint32(), r.Uint32()
		if Kinds(op, a|b) != Kinds(op, a)|Kinds(op, b) {
			t.Fatalf("map %d of %b and %b", op, a, b)
		}
	}
}

// P17.6: two rows, one behind the other.
func TestRowsBehindEachOther(t *testing.T) {
	r := newRandom(6)
	for range 30000 {
		first, second := randomOps(r), randomOps(r)
		topic, d := randomTopic(r), randomValue(r, 5)
		got := Maps(slices.Concat(first, second), topic, d)
		want := Maps(first, topic, d)
		if want.Err == api.OK {
			want = Maps(second, topic, want.Body)
		}
		if !sameResult(got, want) {
			t.Fatalf("%v, then %v, of %s: %s, not %s", first, second, datum.Print(d), show(got), show(want))
		}
	}
}

// P17.6: a row is its maps, one by one; of one map it is the map.
func TestRowIsItsMaps(t *testing.T) {
	r := newRandom(7)
	for range 30000 {
		ops, topic, d := randomOps(r), randomTopic(r), randomValue(r, 5)
		want := api.Result{Has: true, Body: d}
		for _, op := range ops {
			if want.Err == api.OK {
				want = Map(op, topic, want.Body)
			}
		}
		if got := Maps(ops, topic, d); !sameResult(got, want) {
			t.Fatalf("%v of %s: %s, not %s", ops, datum.Print(d), show(got), show(want))
		}
	}
}

// P17.7: what comes is valid, beside an error too.
func TestValid(t *testing.T) {
	r := newRandom(8)
	for range 30000 {
		d := randomValue(r, 5)
		if r.IntN(3) == 0 {
			_, deep := datum.Parts(d)
			d = nested(d, api.MaxDeep-deep-r.IntN(4))
		}
		got := Maps(randomOps(r), randomTopic(r), d)
		if !datum.Valid(got.Body) || got.Err != api.OK && (got.Has || !datum.Same(got.Body, api.Datum{})) {
			t.Fatalf("%s: %s", datum.Print(d), show(got))
		}
	}
}
