package topic

import "testing"

// P3.3.
func TestMatch(t *testing.T) {
	for _, c := range []struct {
		f, n string
		is   bool
	}{
		{"a", "a", true}, {"a", "b", false}, {"a", "A", false}, {"a", "ab", false}, {"ab", "a", false}, {"a", "a/", false}, {"a/", "a", false}, {"a", "/a", false}, {"/a", "a", false}, {"a/b", "a/b", true}, {"a/b", "a/b/c", false}, {"a/b/c", "a/b", false}, {"é", "é", true}, {"é", "e\u0301", false},
		{"+", "a", true}, {"+", "a/b", false}, {"+", "/", false}, {"+/+", "/", true}, {"+/+", "a/", true}, {"+/+", "//", false}, {"/+", "/", true}, {"/+", "/a", true}, {"/+", "a", false}, {"+/", "a/", true}, {"+/", "/", true}, {"+/", "a", false}, {"a/+/c", "a/é/c", true}, {"a/+/c", "a/b/d", false}, {"a/+", "a", false},
		{"#", "a", true}, {"#", "/", true}, {"#", "a/b/c", true}, {"a/#", "a", true}, {"a/#", "a/", true}, {"a/#", "a/b/c", true}, {"a/#", "ab", false}, {"a/#", "b", false}, {"a/#", "/a", false}, {"a/+/#", "a", false}, {"a/+/#", "a/", true}, {"a/+/#", "a/b", true}, {"a/+/#", "a/b/c/d", true}, {"+/#", "a", true}, {"/#", "/", true}, {"/#", "/a", true}, {"/#", "//", true}, {"/#", "a", false}, {"//#", "/", true}, {"//#", "/a", false}, {"//#", "//a", true},
		{"#", "$", false}, {"#", "$sys/x", false}, {"+", "$sys", false}, {"+/#", "$sys", false}, {"+/x", "$/x", false}, {"$", "$", true}, {"$/#", "$", true}, {"$/+", "$/$", true}, {"$sys/#", "$sysx", false}, {"#", "a/$sys", true}, {"+/+", "a/$sys", true}, {"/#", "/$sys", true}, {"+/$sys", "/$sys", true}, {"#", "a$", true}, {"$sys", "sys", false}, {"sys", "$sys", false},
		{"", "", false}, {"", "a", false}, {"a", "", false}, {"#", "", false}, {"+", "", false}, {"/#", "", false}, {"#", "+", false}, {"#", "#", false}, {"+", "+", false}, {"a/+", "a/+", false}, {"a/#", "a/#", false}, {"a+", "a+", false}, {"#/", "a/", false}, {"a/#/b", "a/b", false}, {"#", "a\x00", false}, {"#", "\xff", false}, {"\xff", "\xff", false}, {"\x00", "\x00", false}, {"+\x00", "a", false},
	} {
		if Match(c.f, c.n) != c.is {
			t.Errorf("Match(%q, %q): %v", c.f, c.n, !c.is)
		}
	}
}

// P3.3, of all small filters and names.
func TestMatchOfAllSmall(t *testing.T) {
	names := smallNames()
	for _, f := range smallFilters() {
		for _, n := range names {
			if Match(f, n) != has(f, n) {
				t.Fatalf("Match(%q, %q): %v", f, n, !has(f, n))
			}
		}
	}
}

// P3.3, of texts of which many are neither.
func TestMatchOfTexts(t *testing.T) {
	r := newRandom(2)
	for range 50000 {
		f, n := randomText(r), randomText(r)
		if is := isFilter(f) && isName(n) && has(f, n); Match(f, n) != is {
			t.Fatalf("Match(%q, %q): %v", f, n, !is)
		}
	}
}

// P3.3, at MaxBytes.
func TestMatchOfLong(t *testing.T) {
	a, slashes := long("a", most-2), long("/", most)
	for _, c := range []struct {
		f, n string
		is   bool
	}{
		{"+", long("a", most), true}, {"+", long("a", most+1), false}, {"#", slashes, true}, {"#", slashes + "/", false}, {long("+/", most-1) + "+", long("/", most/2), true}, {long("+/", most-1) + "+", long("/", most/2+1), false}, {long("+/", most-1) + "#", long("/", most/2), true}, {long("+/", most-1) + "#", slashes, true},
		{a + "/#", a, true}, {a + "/#", a + "/", true}, {a + "/#", a + "/b", true}, {a + "/#", a + "//", true}, {a + "/#", a + "/bc", false}, {a + "/+", a + "/b", true}, {a + "/+", a + "/bc", false}, {a + "/+", a, false}, {long("a", most), long("a", most), true}, {long("a", most+1), long("a", most+1), false}, {a + "aa/#", a + "aa", false},
	} {
		if Match(c.f, c.n) != c.is {
			t.Errorf("Match(%.5q.. of %d, %.5q.. of %d bytes): %v", c.f, len(c.f), c.n, len(c.n), !c.is)
		}
	}
}

// P3.6: every name is a filter that has just itself.
func TestNamesAreFilters(t *testing.T) {
	names := rows([]string{"", "a", "b", "$"}, 4)
	for _, n := range names {
		if !Name(n) || !Filter(n) {
			t.Fatalf("%q is no filter", n)
		}
		for _, m := range names {
			if Match(n, m) != (n == m) {
				t.Fatalf("Match(%q, %q): %v", n, m, n != m)
			}
		}
	}
	r := newRandom(3)
	for range 20000 {
		if n := randomText(r); Name(n) && (!Filter(n) || !Match(n, n)) {
			t.Fatalf("%q is no filter that has itself", n)
		}
	}
}
