package errs

import (
	"slices"
	"testing"

	"conduit/api"
)

// P35.10: EkNil goes, all else stays in its order, under the number that was given.
func TestJoin(t *testing.T) {
	for _, l := range [][]api.Err{nil, {}, {none}, slices.Repeat([]api.Err{none}, 9)} {
		if e := Join(l, 3); !Same(e, none) {
			t.Error(len(l), show(e))
		}
	}
	all := kinds(t)
	if e := Join(append(all, none, m, many(3)), greatest); !Same(e, many(greatest, append(slices.Clone(all[1:]), m, many(3))...)) {
		t.Error(show(e))
	}
	if e := Join([]api.Err{null()}, 1); !Same(e, many(1, null())) {
		t.Error(show(e))
	}
	if e := Join([]api.Err{many(1, none, none)}, 2); !Same(e, many(2, many(1, none, none))) {
		t.Error(show(e))
	}
	r := newRandom(3)
	for range 3000 {
		l := randomList(t, r, 4)
		if e := Join(l, 7); !Same(e, chapterJoin(l, 7)) || !Valid(e) {
			t.Fatal(show(e))
		}
	}
}

// P35.10: what is joined need not be valid, if it is too much.
func TestJoinMuch(t *testing.T) {
	deep := chain(p, api.MaxDeep-1, func(e api.Err) api.Err { return wrap(1, "", e) })
	if e := Join([]api.Err{fit(t, deep)}, 1); !Same(e, many(1, deep)) || Valid(e) {
		t.Error("deep")
	}
	if e := Join(slices.Repeat([]api.Err{p}, api.MaxItems+5), 1); len(e.List) != api.MaxItems+5 || Valid(e) {
		t.Error("wide", len(e.List))
	}
}

// P35.11: the first of these that applies.
func TestResult(t *testing.T) {
	late, typed := api.Result{Err: api.ErrLate}, api.Result{Err: api.ErrTyped}
	failed := func(code int64) api.Result { return api.Result{Err: api.ErrHandler, Code: code} }
	for _, c := range []struct {
		e    api.Err
		said api.Result
	}{
		{none, api.Result{}},
		{null(), typed},
		{wrap(1, "w", null()), failed(-1)},
		{many(1, null()), failed(-1)},
		{many(1, null(), p), failed(5)},
		{many(1, null(), timely(1, "")), late},
		{timely(1, "t"), late},
		{timely(3, "t"), late},
		{timely(2, "t"), failed(2)},
		{many(1, timely(2, ""), timely(1, "")), failed(2)},
		{many(1, timely(1, ""), timely(2, "")), late},
		{many(1, p, timely(3, "")), late},
		{many(1, p, timely(2, "")), failed(5)},
		{many(1, timely(2, ""), p), failed(2)},
		{wrap(1, "", like(1, "", nil, many(1, none, timely(1, "")))), late},
		{p, failed(5)},
		{plainly(0, "p"), failed(0)},
		{plainly(least, "p"), failed(least)},
		{many(1, wrap(1, "", plainly(3, "")), plainly(4, "")), failed(3)},
		{many(1), failed(-1)},
		{many(1, none), failed(-1)},
		{ptr(9, "a"), failed(-1)},
		{list(3), failed(-1)},
		{hold(t, `!3"a"`), failed(-1)},
		{hold(t, "&nil"), failed(-1)},
		{like(1, "l", []int64{3}), failed(-1)},
		{pose(1, "s", 3), failed(-1)},
		{many(1, pose(1, "s", 3), plainly(4, "")), failed(4)},
	} {
		if got := Result(fit(t, c.e)); !sameResult(got, c.said) {
			t.Errorf("%s: %+v", show(c.e), got)
		}
	}
}
