package guard

import (
	"testing"

	"conduit/api"
	"conduit/want"
)

// P11.3: whatever is done, and whatever lies in fields that it does not look at.
func TestNeverPanics(t *testing.T) {
	edges := append(numbers(api.NumKinds), numbers(api.NumActs)...)
	for _, n := range edges {
		for _, op := range numbers(api.NumActs) {
			for _, d := range values() {
				Try(api.Act{Op: int(op), A: d, B: d, N: n})
			}
		}
	}
}

// P11.4: each result is what Try tells, the places are those of the results, backwards.
func TestRunIsTries(t *testing.T) {
	r := newRandom(3)
	for range 30000 {
		l := randomRow(r)
		results, places := Run(l)
		if len(results) != len(places) || len(results) > len(l) {
			t.Fatalf("%d acts, %d results, %d places", len(l), len(results), len(places))
		}
		for i, got := range results {
			if one := Try(l[i]); !sameResult(one, got) {
				t.Fatalf("%s: %s alone, %s in a row", showAct(l[i]), show(one), show(got))
			}
			if last := i == len(l)-1; (got.Err == api.ErrPanic || last) != (i == len(results)-1) {
				t.Fatalf("the row ends at %d of %d behind %s", i, len(l), show(got))
			}
			if places[len(places)-1-i] != i {
				t.Fatalf("places %v", places)
			}
		}
	}
}

// P11.5: an assertion holds just where the pattern does.
func TestAssertionsArePatterns(t *testing.T) {
	for _, d := range values() {
		for n := range int64(api.NumKinds) {
			holds := want.Holds(api.Want{Op: api.WKind, Num: int(n)}, d)
			// No assertion is to nil, which a pattern may ask for.
			if got := Try(api.Act{Op: api.ActAssert, A: d, N: n}); (got.Err == api.OK) != (holds && n != api.KNil) {
				t.Errorf("%v to kind %d: %s", d, n, show(got))
			}
		}
		for n := range int64(api.NumFaces) {
			holds := want.Holds(api.Want{Op: api.WFace, Num: int(n)}, d)
			got := Try(api.Act{Op: api.ActFace, A: d, N: n})
			if (got.Err == api.OK) != holds {
				t.Errorf("%v to interface %d: %s", d, n, show(got))
			}
			if !holds && d.Kind != api.KNil && got.Panic.Num != int64(want.Missing(d.Kind, int(n))) {
				t.Errorf("%v to interface %d: %s, but %d is missing", d, n, show(got), want.Missing(d.Kind, int(n)))
			}
		}
	}
}
