package errs

import (
	"testing"

	"conduit/api"
)

// P35.4: unlike types are unlike, and it takes no look inside; EkPtr and EkNoPtr have one type.
func TestEqualTypes(t *testing.T) {
	all := append(kinds(t), hold(t, "[1]"), list(), ptr(2, "a"), like(1, "l", nil, null()))
	for _, a := range all {
		for _, b := range all {
			is, fault := Equal(a, b)
			if typeOf(a.Kind) != typeOf(b.Kind) && (is || fault != api.OK) {
				t.Errorf("%s, %s: %v, %v", show(a), show(b), is, fault)
			}
			twoAsSaid(t, a, b)
		}
	}
}

// P35.4: what is looked at of each type.
func TestEqual(t *testing.T) {
	for _, c := range []struct {
		a, b  api.Err
		is    bool
		fault api.Errno
	}{
		{none, none, true, api.OK},
		{none, null(), false, api.OK},
		{p, plainly(5, "p"), true, api.OK},
		{p, plainly(6, "p"), false, api.OK},
		{p, plainly(5, "q"), false, api.OK},
		{timely(1, "p"), plainly(1, "p"), false, api.OK},
		{timely(1, "t"), timely(1, "t"), true, api.OK},
		{timely(1, "t"), timely(3, "t"), false, api.OK},
		{timely(1, "t"), timely(1, "u"), false, api.OK},
		{ptr(1, "a"), ptr(1, "b"), true, api.OK},
		{ptr(1, "a"), ptr(2, "a"), false, api.OK},
		{null(), null(), true, api.OK},
		{null(), ptr(1, ""), false, api.OK},
		{ptr(1, ""), null(), false, api.OK},
		{wrap(1, "a", p), wrap(1, "b", null()), true, api.OK},
		{wrap(1, "a", p), wrap(2, "a", p), false, api.OK},
		{wrap(1, "a", list(1)), wrap(1, "a", list(1)), true, api.OK},
		{wrap(1, "a", p), like(1, "a", nil, p), false, api.OK},
		{many(1, p), many(1), true, api.OK},
		{many(1, p), many(2, p), false, api.OK},
		{like(1, "a", []int64{1}), like(1, "b", nil, p), true, api.OK},
		{like(1, "a", nil), like(2, "a", nil), false, api.OK},
		{pose(1, "a", 1), pose(1, "b", 2), true, api.OK},
		{pose(1, "a", 1), pose(2, "a", 1), false, api.OK},
		{pose(1, "a", 1), ptr(1, "a"), false, api.OK},
		{pose(1, "a", 1), plainly(1, "a"), false, api.OK},
		{list(), list(), false, api.ErrCompare},
		{list(1), list(2, 3), false, api.ErrCompare},
		{list(1), hold(t, "[1]"), false, api.OK},
		{hold(t, "nil"), hold(t, "nil"), true, api.OK},
		{hold(t, "nil"), none, false, api.OK},
		{hold(t, "1"), hold(t, "1"), true, api.OK},
		{hold(t, "1"), hold(t, "#1"), false, api.OK},
		{hold(t, "f7ff8000000000001"), hold(t, "f7ff8000000000001"), false, api.OK},
		{hold(t, "f8000000000000000"), hold(t, "f0000000000000000"), true, api.OK},
		{hold(t, "[1]"), hold(t, "[2]"), false, api.ErrCompare},
		{hold(t, "[1]"), hold(t, "%01"), false, api.OK},
		{hold(t, "%01"), hold(t, "%02"), false, api.ErrCompare},
		{hold(t, "(1, [2])"), hold(t, "(2, [2])"), false, api.OK},
		{hold(t, "(1, [2])"), hold(t, "(1, [2])"), false, api.ErrCompare},
		{hold(t, "([2], 1)"), hold(t, "([2], 2)"), false, api.ErrCompare},
		{hold(t, "&1([2])"), hold(t, "&1(5)"), true, api.OK},
		{hold(t, "&1(5)"), hold(t, "&2(5)"), false, api.OK},
		{hold(t, "&nil"), hold(t, "&nil"), true, api.OK},
		{hold(t, "&nil"), hold(t, "&1(nil)"), false, api.OK},
		{hold(t, `!3"a"`), hold(t, `!3"b"`), false, api.OK},
	} {
		if is, fault := Equal(fit(t, c.a), fit(t, c.b)); is != c.is || fault != c.fault {
			t.Errorf("%s, %s: %v, %v", show(c.a), show(c.b), is, fault)
		}
		if is, fault := Equal(c.b, c.a); is != c.is || fault != c.fault {
			t.Errorf("%s, %s: %v, %v", show(c.b), show(c.a), is, fault)
		}
		twoAsSaid(t, c.a, c.b)
	}
}

// P35.8: of nothing, both must be.
func TestIsNil(t *testing.T) {
	for _, e := range kinds(t)[1:] {
		for _, c := range [][2]api.Err{{e, none}, {none, e}, {many(1, none), none}, {like(1, "", []int64{0}), none}} {
			if is, fault := Is(c[0], c[1]); is || fault != api.OK {
				t.Errorf("%s, %s: %v, %v", show(c[0]), show(c[1]), is, fault)
			}
		}
	}
	if is, fault := Is(none, none); !is || fault != api.OK {
		t.Error(is, fault)
	}
}

// P35.8: target is looked for in e alone; not the other way about, and not in what target wraps.
func TestIsWithin(t *testing.T) {
	for _, inside := range kinds(t)[1:] {
		if inside.Kind == api.EkList {
			continue
		}
		for _, e := range []api.Err{inside, wrap(8, "w", inside), many(8, none, inside), like(8, "l", nil, inside), many(8, list(1), wrap(9, "w", many(7, null(), like(9, "l", nil, inside))))} {
			if is, fault := Is(e, inside); !is || fault != api.OK {
				t.Errorf("%s, %s: %v, %v", show(e), show(inside), is, fault)
			}
			if is, fault := Is(inside, wrap(99, "", e)); is || fault != api.OK {
				t.Errorf("%s, around %s: %v, %v", show(inside), show(e), is, fault)
			}
		}
	}
}

// P35.8: an EkLike says so of an EkPlain and an EkTime, by their codes alone, and of no other one; and it says so where target is asked, not of what lies in it.
func TestIsLike(t *testing.T) {
	l := like(1, "l", []int64{5, 3, 5, least})
	for _, c := range []struct {
		e, target api.Err
		is        bool
	}{
		{l, plainly(5, "x"), true},
		{l, plainly(3, ""), true},
		{l, plainly(least, "x"), true},
		{l, plainly(4, "l"), false},
		{l, timely(3, "x"), true},
		{l, timely(2, "x"), false},
		{l, pose(2, "x", 5), false},
		{l, list(5), false},
		{l, hold(t, "5"), false},
		{l, ptr(5, "x"), false},
		{l, like(5, "x", []int64{5}), false},
		{l, like(1, "x", nil), true},
		{l, wrap(5, "x", plainly(5, "x")), false},
		{l, many(5, plainly(5, "x")), false},
		{like(1, "l", nil), plainly(0, ""), false},
		{like(1, "l", []int64{4}, plainly(6, "p")), plainly(6, "p"), true},
		{like(1, "l", []int64{4}, plainly(6, "p")), plainly(4, "p"), true},
		{like(1, "l", []int64{4}, plainly(6, "p")), plainly(6, "q"), false},
		{like(1, "l", nil, like(2, "m", nil, like(3, "n", []int64{9}))), plainly(9, "q"), true},
		{many(1, none, null(), wrap(2, "w", l)), timely(3, ""), true},
		{plainly(5, "x"), l, false},
		{pose(1, "x", 5), plainly(5, "x"), false},
	} {
		if is, fault := Is(fit(t, c.e), fit(t, c.target)); is != c.is || fault != api.OK {
			t.Errorf("%s, %s: %v, %v", show(c.e), show(c.target), is, fault)
		}
	}
}

// P35.8: the first that is so ends it, or the first panic; an EkList as a target is not compared, one on the way neither.
func TestIsPanics(t *testing.T) {
	bad, one := hold(t, "[1]"), hold(t, "1")
	for _, c := range []struct {
		e, target api.Err
		is        bool
		fault     api.Errno
	}{
		{many(1, bad, one), bad, false, api.ErrCompare},
		{many(1, one, bad), bad, false, api.ErrCompare},
		{many(1, bad, one), one, true, api.OK},
		{many(1, hold(t, "(1, [2])"), hold(t, "(1, 2)")), hold(t, "(1, [2])"), false, api.ErrCompare},
		{many(1, hold(t, "(1, 2)"), hold(t, "(2, [2])")), hold(t, "(1, [2])"), false, api.OK},
		{many(1, hold(t, "(1, &1([2]))"), hold(t, "(1, [2])")), hold(t, "(1, &1(3))"), true, api.OK},
		{many(1, hold(t, "([2], 1)"), p), p, true, api.OK},
		{many(1, wrap(2, "w", bad), bad), hold(t, "[]"), false, api.ErrCompare},
		{many(1, list(1), many(2, list(2))), list(1), false, api.OK},
		{many(1, list(1), p), p, true, api.OK},
		{list(1), hold(t, "[1]"), false, api.OK},
	} {
		if is, fault := Is(fit(t, c.e), fit(t, c.target)); is != c.is || fault != c.fault {
			t.Errorf("%s, %s: %v, %v", show(c.e), show(c.target), is, fault)
		}
		twoAsSaid(t, c.e, c.target)
	}
}

// P35.8: pointers are one by their numbers, those that lie in bodies too, though what is told of them differs, and though they are handed in apart.
func TestIsByNumber(t *testing.T) {
	if is, _ := Is(many(1, ptr(1, "a"), ptr(1, "b")), ptr(1, "c")); !is {
		t.Error("ptr")
	}
	e := many(1, wrap(1, "a", plainly(1, "x")), wrap(1, "b", plainly(2, "y")))
	for _, target := range []api.Err{wrap(1, "c", null()), plainly(1, "x"), plainly(2, "y"), many(1)} {
		if is, _ := Is(e, target); !is {
			t.Error(show(target))
		}
	}
	if is, _ := Is(many(1, hold(t, "&1(1)"), hold(t, "&2(2)")), hold(t, "&2([])")); !is {
		t.Error("box")
	}
}

// P35.4, P35.8: of random errors, and of those that stand in them.
func TestIsAsSaid(t *testing.T) {
	r := newRandom(2)
	seen := map[string]int{}
	for range 30000 {
		e, other := some(t, r), some(t, r)
		twoAsSaid(t, e, other)
		if e.Kind == api.EkNil {
			continue
		}
		part := partOf(r, e)
		twoAsSaid(t, e, part)
		twoAsSaid(t, part, e)
		twoAsSaid(t, part, part)
		for _, target := range []api.Err{other, part} {
			is, fault := Is(e, target)
			switch {
			case fault != api.OK:
				seen["panics"]++
			case is:
				seen["is"]++
			default:
				seen["is not"]++
			}
		}
	}
	if len(seen) < 3 || seen["panics"] < 300 || seen["is"] < 3000 {
		t.Error(seen)
	}
}
