package datum

import (
	"math"
	"slices"
	"testing"

	"conduit/api"
)

// said is == as the chapter's words have it, without Go's own ==.
func said(a, b api.Datum) (bool, api.Errno) {
	if a.Kind != b.Kind {
		return false, api.OK
	}
	switch a.Kind {
	case api.KFloat:
		return math.Float64frombits(a.Bits) == math.Float64frombits(b.Bits), api.OK
	case api.KBytes, api.KList:
		return false, api.ErrCompare
	case api.KPtr:
		return a.Int == b.Int, api.OK
	case api.KPair:
		if is, e := said(a.List[0], b.List[0]); !is || e != api.OK {
			return is, e
		}
		return said(a.List[1], b.List[1])
	}
	return a.Int == b.Int && a.Text == b.Text, api.OK
}

func saidKey(d api.Datum) bool {
	switch d.Kind {
	case api.KBytes, api.KList:
		return false
	case api.KPair:
		return saidKey(d.List[0]) && saidKey(d.List[1])
	}
	return true
}

func saidNaN(d api.Datum) bool {
	switch d.Kind {
	case api.KFloat:
		return math.IsNaN(math.Float64frombits(d.Bits))
	case api.KPair:
		return saidNaN(d.List[0]) || saidNaN(d.List[1])
	}
	return false
}

// P1.4, and the chapter's examples 1 and 2.
func TestEqual(t *testing.T) {
	for _, c := range []struct {
		a, b string
		is   bool
		e    api.Errno
	}{
		{`"a"`, `@"a"`, false, api.OK}, {"&nil", "&nil", true, api.OK}, {"&nil", "nil", false, api.OK}, {"&nil", "&1(nil)", false, api.OK},
		{"f7ff8000000000001", "f7ff8000000000001", false, api.OK}, {"f7ff0000000000001", "f7ff0000000000001", false, api.OK}, {"f8000000000000000", "f0000000000000000", true, api.OK},
		{"f3ff0000000000000", "f3ff0000000000000", true, api.OK}, {"f3ff0000000000000", "f3ff0000000000001", false, api.OK}, {"f0000000000000000", "0", false, api.OK},
		{"(1, [2])", "(1, [2])", false, api.ErrCompare}, {"(1, [2])", "(2, [2])", false, api.OK}, {"([2], 1)", "([2], 2)", false, api.ErrCompare}, {"&1([2])", "&1(5)", true, api.OK},
		{"([2], 1)", "(%02, 1)", false, api.OK}, {"(1, [2])", "(1, %02)", false, api.OK}, {"(1, [2])", "(#1, [2])", false, api.OK}, {"(f7ff8000000000001, [])", "(f7ff8000000000001, [])", false, api.OK},
		{"((1, 2), [])", "((1, 3), [])", false, api.OK}, {"((1, 2), [])", "((1, 2), [])", false, api.ErrCompare}, {"(1, (2, []))", "(1, (2, []))", false, api.ErrCompare}, {"(1, (2, []))", "(1, (3, []))", false, api.OK},
		{"[]", "[]", false, api.ErrCompare}, {"[1]", "[2]", false, api.ErrCompare}, {"[]", "1", false, api.OK}, {"1", "[]", false, api.OK}, {"[]", "nil", false, api.OK}, {"%", "%", false, api.ErrCompare}, {"%00", "[0]", false, api.OK},
		{"nil", "nil", true, api.OK}, {"{}", "{}", true, api.OK}, {"{}", "nil", false, api.OK}, {"5", "5", true, api.OK}, {"5", "6", false, api.OK}, {"5", "#5", false, api.OK}, {"#5", "#5", true, api.OK}, {"1", "true", false, api.OK},
		{"true", "true", true, api.OK}, {"true", "false", false, api.OK}, {`"a"`, `"a"`, true, api.OK}, {`"a"`, `"b"`, false, api.OK}, {`@"a"`, `@"a"`, true, api.OK}, {`@"a"`, `@"b"`, false, api.OK}, {`"a"`, "%61", false, api.OK},
		{`!3"a"`, `!3"a"`, true, api.OK}, {`!3"a"`, `!3"b"`, false, api.OK}, {`!3"a"`, `!4"a"`, false, api.OK},
		{"&1(5)", "&2(5)", false, api.OK}, {"&1([])", "&1([])", true, api.OK}, {"(&1(1), &2(1))", "(&1(2), &2(2))", true, api.OK}, {"(&1(1), &2(1))", "(&2(1), &1(1))", false, api.OK}, {"&1(&2([]))", "&2(&1([]))", false, api.OK}, {"&1((&1(5), 2))", "&1(nil)", true, api.OK},
		{"(1, 2)", "(1, 2)", true, api.OK}, {"(1, 2)", "(2, 1)", false, api.OK}, {"(1, 2)", "(1, 3)", false, api.OK},
	} {
		if is, e := Equal(read(t, c.a), read(t, c.b)); is != c.is || e != c.e {
			t.Errorf("%s == %s: %v, %v", c.a, c.b, is, e)
		}
	}
}

func TestEqualAsSaid(t *testing.T) {
	r := newRandom(4)
	seen := map[api.Errno]int{}
	for range 60000 {
		a, b := r.pairs(4), r.pairs(4)
		if r.IntN(2) == 0 {
			a, b = r.value(4), r.value(4)
		}
		if r.IntN(3) == 0 {
			b = copied(a)
		}
		want, fault := said(a, b)
		if is, e := Equal(a, b); is != want || e != fault {
			t.Fatalf("%s == %s: %v, %v", Print(a), Print(b), is, e)
		}
		seen[fault]++
	}
	if seen[api.OK] < 1000 || seen[api.ErrCompare] < 1000 {
		t.Error("too few of a sort", seen)
	}
}

// P1.5, and the chapter's example 3.
func TestGroup(t *testing.T) {
	for _, c := range []struct {
		l    []string
		want []int
		e    api.Errno
	}{
		{[]string{"1", "#1", "1", "f7ff8000000000001", "f7ff8000000000001", `"x"`, `@"x"`, `"x"`}, []int{0, 1, 0, 3, 4, 5, 6, 5}, api.OK},
		{[]string{"(1, [2])"}, nil, api.ErrHash},
		{nil, nil, api.OK},
		{[]string{"f8000000000000000", "f0000000000000000", "(f0000000000000000, 1)", "(f8000000000000000, 1)"}, []int{0, 0, 2, 2}, api.OK},
		{[]string{"(f7ff8000000000001, 1)", "(f7ff8000000000001, 1)", "(1, (1, f7ff8000000000001))", "(1, (1, f7ff8000000000001))"}, []int{0, 1, 2, 3}, api.OK},
		{[]string{"&1([])", "&2([])", "&1(%00)", "(&1([1]), 5)", "(&1([2]), 5)", "&nil", "nil", "&nil", "{}", "{}", "nil"}, []int{0, 1, 0, 3, 3, 5, 6, 5, 8, 8, 6}, api.OK},
		{[]string{`!1"a"`, `!1"b"`, `!2"a"`, `!1"a"`, "true", "false", "true", "1"}, []int{0, 1, 2, 0, 4, 5, 4, 7}, api.OK},
		{[]string{"%"}, nil, api.ErrHash}, {[]string{"[]"}, nil, api.ErrHash}, {[]string{"1", "1", "[]"}, nil, api.ErrHash}, {[]string{"%00", "1"}, nil, api.ErrHash},
		{[]string{"([2], 1)"}, nil, api.ErrHash}, {[]string{"(1, (2, (3, %)))"}, nil, api.ErrHash}, {[]string{"(f7ff8000000000001, [])"}, nil, api.ErrHash}, {[]string{"((1, []), (2, 3))", "1"}, nil, api.ErrHash},
		{[]string{"&1([2])"}, []int{0}, api.OK}, {[]string{"(1, &1((1, [2])))"}, []int{0}, api.OK},
	} {
		if g, e := Group(readAll(t, c.l...)); e != c.e || !slices.Equal(g, c.want) {
			t.Errorf("%v: %v, %v", c.l, g, e)
		}
	}
}

func TestGroupAsSaid(t *testing.T) {
	r := newRandom(5)
	for range 3000 {
		var l []api.Datum
		may := true
		for range r.IntN(40) {
			d := r.pairs(3)
			if !saidKey(d) && r.IntN(30) > 0 {
				d = r.leaf()
			}
			may = may && saidKey(d)
			l = append(l, d)
		}
		g, e := Group(l)
		if !may {
			if e != api.ErrHash || len(g) != 0 {
				t.Fatal(g, e)
			}
			continue
		}
		if e != api.OK || len(g) != len(l) {
			t.Fatal(g, e)
		}
		for i, d := range l {
			want := i
			for j := range i {
				if is, _ := said(l[j], d); is {
					want = j
					break
				}
			}
			if g[i] != want {
				t.Fatalf("%s at %d: %d, not %d", Print(d), i, g[i], want)
			}
		}
	}
}

func TestGroupOfMany(t *testing.T) {
	var l []api.Datum
	for i := range 100000 {
		l = append(l, dPtr(int64(i%1000)+1, dNil), dFloat(nan))
	}
	g, e := Group(l)
	if e != api.OK || len(g) != len(l) || g[len(g)-2] != 1998 || g[len(g)-1] != len(g)-1 {
		t.Error(len(g), e)
	}
}

// P1.9
func TestEqualFollows(t *testing.T) {
	r := newRandom(9)
	for range 30000 {
		a, b := r.pairs(4), r.pairs(4)
		if r.IntN(2) == 0 {
			a, b = r.value(3), r.value(3)
		}
		is1, e1 := Equal(a, b)
		is2, e2 := Equal(b, a)
		if is1 != is2 || e1 != e2 {
			t.Fatalf("%s and %s: one way %v, %v, the other %v, %v", Print(a), Print(b), is1, e1, is2, e2)
		}
		self, fault := Equal(a, a)
		_, hash := Group([]api.Datum{a})
		if hash == api.OK && (fault != api.OK || self == saidNaN(a)) {
			t.Fatalf("the key %s and itself: %v, %v", Print(a), self, fault)
		}
		if fault != api.OK && hash != api.ErrHash {
			t.Fatalf("%s is a key", Print(a))
		}
	}
}
