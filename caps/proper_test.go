package caps

import (
	"testing"

	"conduit/api"
)

// P5.5, of every set: no proper set within it is greater than Fix, none around it is less than Grow.
func TestGreatestAndLeast(t *testing.T) {
	proper := properSets()
	for _, c := range allSets() {
		fixed, grown := Fix(c), Grow(c)
		if !isProper(fixed) || !within(fixed, c) || !isProper(grown) || !within(c, grown) || !Valid(fixed) || !Valid(grown) {
			t.Fatalf("%q: %q, %q", Text(c), Text(fixed), Text(grown))
		}
		for _, p := range proper {
			if within(p, c) && !within(p, fixed) {
				t.Fatalf("Fix of %q: %q, but there is %q", Text(c), Text(fixed), Text(p))
			}
			if within(c, p) && !within(grown, p) {
				t.Fatalf("Grow of %q: %q, but there is %q", Text(c), Text(grown), Text(p))
			}
		}
	}
}

// P5.5: bits beyond are gone, and play no part.
func TestBeyondIsGone(t *testing.T) {
	for _, c := range allSets() {
		for _, more := range beyond() {
			if Fix(c|more) != Fix(c) || Grow(c|more) != Grow(c) {
				t.Fatalf("%b: %b, %b", c|more, Fix(c|more), Grow(c|more))
			}
		}
	}
}

// P5.5: each of the four by itself.
func TestEachNeed(t *testing.T) {
	for one, other := range map[int]int{api.CapBatch: api.CapFlush, api.CapLoad: api.CapSave, api.CapAck: api.CapUntil, api.CapReset: api.CapPing} {
		alone, both, rest := set(one), set(one, other), 2047&^set(one, other)
		if Fix(alone) != 0 || Grow(alone) != both {
			t.Errorf("%s alone: %q, %q", Word(one), Text(Fix(alone)), Text(Grow(alone)))
		}
		if Fix(rest|alone) != rest || Grow(rest|alone) != 2047 {
			t.Errorf("%s and all but %s: %q, %q", Word(one), Word(other), Text(Fix(rest|alone)), Text(Grow(rest|alone)))
		}
		for _, c := range []api.Caps{set(other), both, rest, rest | set(other), 2047} {
			if Fix(c) != c || Grow(c) != c {
				t.Errorf("%q is proper: %q, %q", Text(c), Text(Fix(c)), Text(Grow(c)))
			}
		}
	}
	if Fix(0) != 0 || Grow(0) != 0 {
		t.Error("the empty set")
	}
}

// P5.6: done twice they are done once; what is proper stays.
func TestTwiceIsOnce(t *testing.T) {
	for _, c := range allSets() {
		fixed, grown := Fix(c), Grow(c)
		if Fix(fixed) != fixed || Grow(grown) != grown || Grow(fixed) != fixed || Fix(grown) != grown {
			t.Errorf("%q: not the same twice", Text(c))
		}
		if is := isProper(c); is != (fixed == c) || is != (grown == c) {
			t.Errorf("%q: proper is %v, but %q, %q", Text(c), is, Text(fixed), Text(grown))
		}
	}
}

// P5.6: monotone, and c lies between the two.
func TestMonotone(t *testing.T) {
	for _, c := range allSets() {
		if !within(Fix(c), c) || !within(c, Grow(c)) {
			t.Errorf("%q: not between", Text(c))
		}
		for which := range api.NumCaps {
			more := c | set(which)
			if !within(Fix(c), Fix(more)) || !within(Grow(c), Grow(more)) {
				t.Errorf("%q and %s: not monotone", Text(c), Word(which))
			}
		}
	}
}
