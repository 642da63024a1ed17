package want

import (
	"slices"
	"testing"

	"conduit/api"
	"conduit/datum"
)

// The chapter's example 1.
func TestExampleHolds(t *testing.T) {
	null, box := read(t, "&nil"), read(t, "&1(nil)")
	if !Holds(kind(api.KPtr), null) || !Holds(kind(api.KNoPtr), null) || Holds(kind(api.KNoPtr), box) || Holds(anything(), read(t, "nil")) || !Holds(anything(), null) {
		t.Error("example 1")
	}
}

// The chapter's example 2.
func TestExampleMethods(t *testing.T) {
	if !slices.Equal(Methods(api.FWhole), []int{api.MSize, api.MName, api.MLess}) {
		t.Error(Methods(api.FWhole))
	}
	if !Implements(api.KName, api.FWhole) || Implements(api.KText, api.FLabelled) || Missing(api.KText, api.FLabelled) != api.MName || !Implements(api.KInt, api.FNumber) {
		t.Error("example 2")
	}
}

// The chapter's example 3.
func TestExampleAssertions(t *testing.T) {
	five, null := read(t, "5"), read(t, "&nil")
	if _, miss, e := Must(five, api.KText); e != api.ErrAssert || miss != (api.Miss{Have: api.KInt, Method: -1}) {
		t.Error(miss, e)
	}
	if _, miss, e := Must(read(t, "nil"), api.KInt); e != api.ErrAssert || miss != (api.Miss{Have: api.KNil, Method: -1}) {
		t.Error(miss, e)
	}
	if miss, e := MustFace(five, api.FWhole); e != api.ErrAssert || miss != (api.Miss{Have: api.KInt, Method: api.MSize}) {
		t.Error(miss, e)
	}
	if d, ok := To(null, api.KPtr); !ok || !datum.Same(d, null) {
		t.Error(d, ok)
	}
}

// The chapter's example 4.
func TestExampleSets(t *testing.T) {
	var set uint32
	for _, k := range []int{api.KName, api.KBytes, api.KList, api.KPair, api.KPtr, api.KNoPtr} {
		set |= 1 << k
	}
	if got := Kinds(op(api.WAnd, face(api.FSized), op(api.WNot, kind(api.KText)))); got != set {
		t.Errorf("%b, not %b", got, set)
	}
	if p := Plain(op(api.WOr, kind(api.KInt), op(api.WNot, anything()))); !same(p, op(api.WOr, kind(api.KNil), kind(api.KInt))) {
		t.Error(written(p))
	}
	pointer := op(api.WAnd, kind(api.KPtr), op(api.WNot, kind(api.KNoPtr)))
	if p := Plain(pointer); !same(p, pointer) {
		t.Error(written(p))
	}
}

// The chapter's example 5.
func TestExampleFirst(t *testing.T) {
	l := []api.Want{kind(api.KInt), face(api.FSized), anything()}
	for _, c := range []struct {
		d  string
		is int
	}{{`"x"`, 1}, {"5", 0}, {"&nil", 1}, {"{}", 2}, {"nil", -1}} {
		if got := First(l, read(t, c.d)); got != c.is {
			t.Errorf("First of %s: %d, not %d", c.d, got, c.is)
		}
	}
}
