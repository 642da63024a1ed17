package errs

import (
	"slices"
	"testing"

	"conduit/api"
)

var (
	p = plainly(5, "p")
	w = wrap(1, "w", p)
	m = many(2, none, w, timely(1, "t"))
)

// The chapter's example 1.
func TestExampleWrapped(t *testing.T) {
	if s, e := Text(m); s != "w: p\nt" || e != api.OK {
		t.Errorf("%q %v", s, e)
	}
	if ways := Walk(m); !slices.EqualFunc(ways, [][]int{{}, {1}, {1, 0}, {2}}, slices.Equal) {
		t.Error(ways)
	}
	if is, e := Is(m, p); !is || e != api.OK {
		t.Error(is, e)
	}
	if is, e := Is(m, plainly(5, "q")); is || e != api.OK {
		t.Error(is, e)
	}
	if !Same(Unwrap(w), p) || !Same(Unwrap(m), none) {
		t.Error(show(Unwrap(w)), show(Unwrap(m)))
	}
}

// The chapter's example 2.
func TestExampleLike(t *testing.T) {
	if is, e := Is(like(3, "l", []int64{5}), p); !is || e != api.OK {
		t.Error(is, e)
	}
	if is, e := Is(like(3, "l", []int64{3}), timely(3, "x")); !is || e != api.OK {
		t.Error(is, e)
	}
	if is, e := Is(list(1), list(1)); is || e != api.OK {
		t.Error(is, e)
	}
	if is, e := Equal(list(1), list(1)); is || e != api.ErrCompare {
		t.Error(is, e)
	}
}

// The chapter's example 3.
func TestExampleHold(t *testing.T) {
	one := hold(t, "[1]")
	if is, e := Equal(one, one); is || e != api.ErrCompare {
		t.Error(is, e)
	}
	if is, e := Is(one, one); is || e != api.ErrCompare {
		t.Error(is, e)
	}
	if is, e := Equal(one, hold(t, "1")); is || e != api.OK {
		t.Error(is, e)
	}
	if is, e := Is(one, hold(t, "1")); is || e != api.OK {
		t.Error(is, e)
	}
	if s, e := Text(null()); s != "" || e != api.ErrNilCall {
		t.Error(s, e)
	}
	if is, e := Is(null(), null()); !is || e != api.OK {
		t.Error(is, e)
	}
	if x, ok := As(null(), api.EkPtr); !ok || !Same(x, null()) {
		t.Error(show(x), ok)
	}
}

// The chapter's example 4.
func TestExampleFound(t *testing.T) {
	if x, ok := As(pose(4, "a", 9), api.EkPlain); !ok || !Same(x, plainly(9, "a")) {
		t.Error(show(x), ok)
	}
	if x, ok := AsFace(m, api.EfNet); !ok || !Same(x, timely(1, "t")) {
		t.Error(show(x), ok)
	}
	if r := Result(m); r.Err != api.ErrLate {
		t.Error(r)
	}
	if r := Result(w); r.Err != api.ErrHandler || r.Code != 5 {
		t.Error(r)
	}
	if r := Result(ptr(1, "")); r.Err != api.ErrHandler || r.Code != -1 {
		t.Error(r)
	}
}

// The chapter's example 5.
func TestExampleJoin(t *testing.T) {
	if e := Join([]api.Err{none, none}, 1); !Same(e, none) {
		t.Error(show(e))
	}
	if e := Join([]api.Err{p, none}, 7); !Same(e, many(7, p)) {
		t.Error(show(e))
	}
}
