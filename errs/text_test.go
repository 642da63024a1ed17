package errs

import (
	"slices"
	"strings"
	"testing"

	"conduit/api"
)

// P35.2: an error is the same as another one just if no field differs.
func TestSame(t *testing.T) {
	all := append(kinds(t), plainly(5, "q"), plainly(6, "p"), ptr(2, "a"), ptr(1, "b"), wrap(1, "v", p), wrap(2, "w", p), wrap(1, "w", null()), many(1, none, p), many(1, p), many(1, p, none, none), many(2, p, none), many(1), hold(t, "6"), hold(t, "#5"), hold(t, "[1]"), hold(t, "&1(1)"), hold(t, "&1(2)"), list(), list(2, 1), list(1), list(1, 2, 3), like(1, "l", []int64{8}), like(1, "l", nil), like(1, "l", []int64{7}, p), like(1, "l", []int64{7}, null()), pose(1, "s", 6), pose(1, "r", 5), pose(2, "s", 5), timely(2, "t"), timely(1, "u"), hold(t, "f8000000000000000"), hold(t, "f0000000000000000"))
	for i, a := range all {
		for k, b := range all {
			if Same(a, b) != (i == k) {
				t.Errorf("%s, %s: %v", show(a), show(b), i != k)
			}
		}
	}
	if nan := hold(t, "f7ff8000000000001"); !Same(nan, nan) {
		t.Error("a NaN's bits are the same")
	}
}

// P35.2, 0.8: a list that is empty may be nil.
func TestSameEmpty(t *testing.T) {
	for i, e := range []api.Err{none, plainly(1, ""), many(1), list(), null(), like(1, "", nil), hold(t, "[]")} {
		empty := e
		empty.Codes, empty.List, empty.Body.List = []int64{}, []api.Err{}, []api.Datum{}
		if !Same(e, empty) || !Same(empty, e) || !Valid(empty) {
			t.Error(i)
		}
		asSaid(t, empty)
		twoAsSaid(t, e, empty)
		twoAsSaid(t, empty, e)
	}
}

// P35.3: what each kind's Error answers.
func TestText(t *testing.T) {
	for said, e := range map[string]api.Err{
		"":                      none,
		"p":                     p,
		"a":                     ptr(1, "a"),
		"w: p":                  w,
		": ":                    wrap(1, "", ptr(1, "")),
		"w: v: p":               wrap(1, "w", wrap(2, "v", p)),
		"p\np":                  many(1, p, none, p),
		"\n":                    many(1, plainly(5, ""), none, plainly(5, "")),
		`&1((#2, "\x0a"))`:      hold(t, `&1((#2, "\x0a"))`),
		"&nil":                  hold(t, "&nil"),
		"nil":                   hold(t, "nil"),
		"3 -1 0":                list(3, -1, 0),
		"-9223372036854775808":  list(least),
		"9223372036854775807 7": list(greatest, 7),
		"l":                     like(1, "l", []int64{5}),
		"l: 1":                  like(1, "l", nil, list(1)),
		"l: ":                   like(1, "l", nil, list()),
		"s":                     pose(1, "s", 3),
		"t":                     timely(3, "t"),
		"x: w: p\na: t":         wrap(1, "x", many(1, w, like(9, "a", nil, many(1, timely(1, "t"), none)))),
	} {
		if s, fault := Text(fit(t, e)); s != said || fault != api.OK {
			t.Errorf("%s: %q, %v", show(e), s, fault)
		}
	}
	for i, e := range []api.Err{many(1), many(1, none), many(1, none, none), list(), plainly(3, ""), many(1, many(2), none)} {
		if s, fault := Text(e); s != "" || fault != api.OK {
			t.Errorf("%d: %q, %v", i, s, fault)
		}
	}
}

// P35.3: an EkNoPtr, wherever it stands.
func TestTextPanics(t *testing.T) {
	for _, e := range []api.Err{null(), wrap(1, "w", null()), many(1, p, null()), many(1, null(), p), like(1, "l", []int64{1}, null()), many(1, none, wrap(2, "w", like(3, "l", nil, many(4, p, none, null()))), p)} {
		if s, fault := Text(fit(t, e)); s != "" || fault != api.ErrNilCall {
			t.Errorf("%s: %q, %v", show(e), s, fault)
		}
	}
}

// P35.3: the longest texts, side by side and one in another.
func TestLongText(t *testing.T) {
	long := strings.Repeat("x", api.MaxBytes)
	wide := many(1, slices.Repeat([]api.Err{plainly(1, long)}, 300)...)
	if s, _ := Text(fit(t, wide)); len(s) != 300*(api.MaxBytes+1)-1 {
		t.Error(len(s))
	}
	deep := chain(plainly(1, long), api.MaxDeep-1, func(e api.Err) api.Err { return wrap(1, long, e) })
	if s, _ := Text(fit(t, deep)); len(s) != api.MaxDeep*(api.MaxBytes+2)-2 {
		t.Error(len(s))
	}
}

// P35.6: what Unwrap answers of each kind; EkMany has none of that form.
func TestUnwrap(t *testing.T) {
	for _, e := range kinds(t) {
		said := none
		if e.Kind == api.EkWrap {
			said = p
		}
		if got := Unwrap(e); !Same(got, said) {
			t.Errorf("%s: %s", show(e), show(got))
		}
	}
	for _, inside := range kinds(t)[1:] {
		for _, e := range []api.Err{wrap(1, "w", inside), like(1, "l", []int64{2}, inside), wrap(7, "", wrap(8, "", inside)).List[0]} {
			if got := Unwrap(e); !Same(got, inside) {
				t.Errorf("%s: %s", show(e), show(got))
			}
		}
		if got := Unwrap(many(1, inside)); !Same(got, none) {
			t.Errorf("many of %s: %s", show(inside), show(got))
		}
	}
	if got := Unwrap(like(1, "l", nil)); !Same(got, none) {
		t.Error(show(got))
	}
}

// P35.7: the order of walking; an EkNil has a place, but no way.
func TestWalk(t *testing.T) {
	if l := Walk(none); len(l) != 0 {
		t.Error(l)
	}
	e := many(1, none, many(2, none, p, none), none, like(3, "", nil, wrap(4, "", null())), many(5), list(1))
	said := [][]int{{}, {1}, {1, 1}, {3}, {3, 0}, {3, 0, 0}, {4}, {5}}
	if l := Walk(e); !slices.EqualFunc(l, said, slices.Equal) {
		t.Error(l)
	}
	for _, e := range kinds(t) {
		if l, said := Walk(e), chapterWalk(e); !slices.EqualFunc(l, said, slices.Equal) {
			t.Errorf("%s: %v", show(e), l)
		}
	}
}

// P35.3, P35.6, P35.7: of random errors.
func TestTextsAsSaid(t *testing.T) {
	r := newRandom(1)
	for range 20000 {
		asSaid(t, some(t, r))
	}
}
