package errs

import (
	"math"
	"slices"
	"testing"

	"conduit/api"
)

// odd is numbers that are none of a kind, and none of an interface.
var odd = []int{math.MinInt, -1, api.NumEk, api.NumEk + 1, 256, 1 << 32, math.MaxInt}

// P35.5: which kinds have which interface.
func TestHas(t *testing.T) {
	for kind := range api.NumEk {
		for face := range api.NumEf {
			if Has(kind, face) != chapterHas(kind, face) {
				t.Errorf("%d, %d: %v", kind, face, Has(kind, face))
			}
		}
		for _, n := range odd {
			if Has(kind, n) || Has(n, kind) || Has(n, n) {
				t.Error(kind, n)
			}
		}
	}
	if Has(api.EkTime, api.NumEf) || Has(api.EkLike, api.NumEf) {
		t.Error("no interface has that number")
	}
}

// P35.9: of each kind As finds itself, and nothing of another type; but an EkAs is an EkPlain too.
func TestAs(t *testing.T) {
	for _, e := range kinds(t) {
		e.List = nil
		if e.Kind == api.EkWrap {
			e.List = []api.Err{many(9)}
		}
		for kind := range api.NumEk {
			said, ok := none, false
			switch {
			case e.Kind == api.EkNil || kind == api.EkNil:
			case typeOf(kind) == typeOf(e.Kind):
				said, ok = e, true
			case e.Kind == api.EkAs && kind == api.EkPlain:
				said, ok = plainly(5, "s"), true
			case e.Kind == api.EkWrap && kind == api.EkMany:
				said, ok = many(9), true
			}
			if got, found := As(e, kind); found != ok || !Same(got, said) {
				t.Errorf("%s: %d: %s, %v", show(e), kind, show(got), found)
			}
		}
		for _, n := range odd {
			if got, found := As(e, n); found || !Same(got, none) {
				t.Errorf("%s: %d: %s", show(e), n, show(got))
			}
		}
	}
}

// P35.9: the first one in the order of walking, with all that is its own.
func TestAsFirst(t *testing.T) {
	deep := wrap(1, "w", many(2, none, like(3, "l", []int64{4, 5}, hold(t, "&1([(1, @\"a\")])")), ptr(4, "a"), null()))
	last := many(5, hold(t, "2"), like(6, "m", nil), wrap(7, "v", null()), ptr(8, "b"), list(1, 2))
	e := many(9, none, deep, last)
	for kind, said := range map[int]api.Err{
		api.EkMany:  e,
		api.EkWrap:  deep,
		api.EkLike:  deep.List[0].List[1],
		api.EkHold:  hold(t, "&1([(1, @\"a\")])"),
		api.EkPtr:   ptr(4, "a"),
		api.EkNoPtr: ptr(4, "a"),
		api.EkList:  list(1, 2),
	} {
		if got, ok := As(e, kind); !ok || !Same(got, said) {
			t.Errorf("%d: %s", kind, show(got))
		}
	}
	if got, ok := As(last, api.EkPtr); !ok || !Same(got, null()) {
		t.Error(show(got))
	}
}

// P35.9: an EkAs ahead of an EkPlain is taken, one behind it is not; it is no other kind.
func TestAsPosing(t *testing.T) {
	s := pose(1, "s", 7)
	for _, c := range []struct{ e, said api.Err }{
		{many(1, s, p), plainly(7, "s")},
		{many(1, p, s), p},
		{many(1, wrap(1, "", s), p), plainly(7, "s")},
		{many(1, timely(1, "t"), like(1, "l", []int64{1}, s)), plainly(7, "s")},
		{pose(1, "", least), plainly(least, "")},
	} {
		if got, ok := As(fit(t, c.e), api.EkPlain); !ok || !Same(got, c.said) {
			t.Errorf("%s: %s", show(c.e), show(got))
		}
	}
	if got, ok := As(many(1, s, timely(1, "t")), api.EkTime); !ok || !Same(got, timely(1, "t")) {
		t.Error(show(got))
	}
	if got, ok := As(many(1, p, s), api.EkAs); !ok || !Same(got, s) {
		t.Error(show(got))
	}
}

// P35.9: of interfaces too, the first one whose kind has it; what an EkAs gives itself out as does not count.
func TestAsFace(t *testing.T) {
	l, s := like(3, "l", []int64{4}, plainly(1, "x")), pose(4, "s", 7)
	e := many(9, none, s, l, timely(2, "t"), wrap(5, "w", timely(1, "u")))
	for face, said := range map[int]api.Err{
		api.EfTimeout:   timely(2, "t"),
		api.EfTemporary: timely(2, "t"),
		api.EfNet:       timely(2, "t"),
		api.EfCoded:     plainly(1, "x"),
		api.EfUnwrap:    l,
		api.EfUnwraps:   e,
		api.EfIs:        l,
		api.EfAs:        s,
	} {
		if got, ok := AsFace(e, face); !ok || !Same(got, said) {
			t.Errorf("%d: %s, %v", face, show(got), ok)
		}
	}
	for _, x := range kinds(t) {
		x.List = nil
		if x.Kind == api.EkWrap {
			x.List = []api.Err{null()}
		}
		for face := range api.NumEf {
			got, ok := AsFace(x, face)
			if ok != chapterHas(x.Kind, face) || ok && !Same(got, x) || !ok && !Same(got, none) {
				t.Errorf("%s: %d: %s, %v", show(x), face, show(got), ok)
			}
		}
		for _, n := range append(slices.Clone(odd), api.NumEf) {
			if got, ok := AsFace(x, n); ok || !Same(got, none) {
				t.Errorf("%s: %d: %s", show(x), n, show(got))
			}
		}
	}
}
