package want

import (
	"slices"
	"testing"

	"conduit/api"
	"conduit/datum"
)

// numbers is all that may be one of a sort, and some on both sides that are none.
func numbers(many int) []int {
	l := []int{-1 << 62, -100, -2, -1}
	for n := range many + 3 {
		l = append(l, n)
	}
	return append(l, 31, 32, 64, 65, 100, 1<<32, 1<<32+1, 1<<62)
}

// P2.5: the methods of every interface, and of none.
func TestMethods(t *testing.T) {
	for _, f := range numbers(api.NumFaces) {
		var is []int
		if known(f, api.NumFaces) {
			is = faceMethods[f]
		}
		if got := Methods(f); !slices.Equal(got, is) {
			t.Errorf("Methods(%d): %v, not %v", f, got, is)
		}
	}
}

// P2.5: every kind and every interface, and what is neither.
func TestImplements(t *testing.T) {
	for _, k := range numbers(api.NumKinds) {
		for _, f := range numbers(api.NumFaces) {
			if Implements(k, f) != implements(k, f) {
				t.Errorf("Implements(%d, %d): %v", k, f, Implements(k, f))
			}
			if got := Missing(k, f); got != lacking(k, f) {
				t.Errorf("Missing(%d, %d): %d, not %d", k, f, got, lacking(k, f))
			}
		}
	}
}

// P2.6: To and Must of every value to every kind, and to what is none.
func TestToMust(t *testing.T) {
	for _, d := range everyValue(t) {
		for _, k := range numbers(api.NumKinds) {
			is := k > api.KNil && k < api.NumKinds && agrees(kind(k), d.Kind)
			to, ok := To(d, k)
			must, miss, e := Must(d, k)
			if is && (!ok || e != api.OK || miss != (api.Miss{}) || !datum.Same(to, d) || !datum.Same(must, d)) {
				t.Errorf("%s to %d: %v; %v, %v", datum.Print(d), k, ok, miss, e)
			}
			if !is && (ok || e != api.ErrAssert || miss != (api.Miss{Have: d.Kind, Method: -1}) || !isZero(to) || !isZero(must)) {
				t.Errorf("%s to %d: %v; %v, %v", datum.Print(d), k, ok, miss, e)
			}
		}
	}
}

func isZero(d api.Datum) bool {
	return d.Kind == 0 && d.Int == 0 && d.Bits == 0 && d.Text == "" && len(d.List) == 0
}

// P2.7: Face and MustFace of every value to every interface, and to what is none.
func TestFaces(t *testing.T) {
	for _, d := range everyValue(t) {
		for _, f := range numbers(api.NumFaces) {
			is := api.Miss{Have: d.Kind, Method: lacking(d.Kind, f)}
			if d.Kind == api.KNil {
				is.Method = -1
			}
			fault := api.ErrAssert
			if implements(d.Kind, f) {
				is, fault = api.Miss{}, api.OK
			}
			miss, e := MustFace(d, f)
			if Face(d, f) != implements(d.Kind, f) || miss != is || e != fault {
				t.Errorf("%s, interface %d: %v; %v, %v", datum.Print(d), f, Face(d, f), miss, e)
			}
		}
	}
}

// P2.10: what embeds has what it embeds; more methods asked, no more kinds.
func TestEmbedding(t *testing.T) {
	for _, c := range [][3]int{
		{api.FLabelled, api.FSized, api.FNamed}, {api.FMeasured, api.FSized, api.FOrdered}, {api.FNumber, api.FOrdered, api.FAdding}, {api.FWhole, api.FLabelled, api.FMeasured},
	} {
		for _, k := range numbers(api.NumKinds) {
			if Implements(k, c[0]) != (Implements(k, c[1]) && Implements(k, c[2])) {
				t.Errorf("kind %d, interface %d", k, c[0])
			}
		}
		if Kinds(face(c[0])) != Kinds(op(api.WAnd, face(c[1]), face(c[2]))) {
			t.Errorf("interface %d", c[0])
		}
	}
	for a := range api.NumFaces {
		for b := range api.NumFaces {
			within := !slices.ContainsFunc(Methods(a), func(m int) bool { return !slices.Contains(Methods(b), m) })
			if within && !Covers(face(a), face(b)) {
				t.Errorf("interface %d asks no more than %d, and has fewer kinds", a, b)
			}
		}
	}
}

// P2.5, P2.10: the interfaces are those of datum.Has.
func TestInterfacesAreMethods(t *testing.T) {
	for k := range api.NumKinds {
		for f := range api.NumFaces {
			all := !slices.ContainsFunc(Methods(f), func(m int) bool { return !datum.Has(k, m) })
			if Implements(k, f) != all {
				t.Errorf("kind %d, interface %d: %v", k, f, !all)
			}
		}
	}
}

// P2.11: the ways of asking say the same.
func TestTheSameQuestion(t *testing.T) {
	for _, d := range everyValue(t) {
		for k := range api.NumKinds {
			_, ok := To(d, k)
			_, _, e := Must(d, k)
			if ok != (e == api.OK) || k != api.KNil && ok != Holds(kind(k), d) || k == api.KNil && ok {
				t.Errorf("%s, kind %d: %v, %v, %v", datum.Print(d), k, ok, e, Holds(kind(k), d))
			}
		}
		for f := range api.NumFaces {
			_, e := MustFace(d, f)
			if Face(d, f) != (e == api.OK) || Face(d, f) != Holds(face(f), d) || Face(d, f) != Implements(d.Kind, f) {
				t.Errorf("%s, interface %d: %v, %v, %v", datum.Print(d), f, Face(d, f), e, Holds(face(f), d))
			}
		}
	}
}
