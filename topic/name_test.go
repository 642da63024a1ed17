package topic

import (
	"slices"
	"strings"
	"testing"
)

// P3.1: which texts are names, which filters.
func TestNameAndFilter(t *testing.T) {
	for _, c := range []struct {
		s            string
		name, filter bool
	}{
		{"", false, false}, {"a", true, true}, {"/", true, true}, {"//", true, true}, {"/a", true, true}, {"a/", true, true}, {"a//b", true, true}, {" ", true, true}, {"a b", true, true}, {"$", true, true}, {"$sys/x", true, true}, {"é/日本/𝄞", true, true}, {"\x01\x7f", true, true}, {"\ufffd", true, true}, {"\U0010ffff", true, true}, {"a\\b*?", true, true},
		{"+", false, true}, {"#", false, true}, {"+/#", false, true}, {"/#", false, true}, {"/+", false, true}, {"+/", false, true}, {"+/+/+", false, true}, {"a/+/b/#", false, true}, {"//#", false, true}, {"$sys/+/#", false, true}, {"$/+", false, true},
		{"a+", false, false}, {"+a", false, false}, {"a+b", false, false}, {"++", false, false}, {"a/b+", false, false}, {"a/+b/c", false, false}, {"+$", false, false}, {"é+", false, false},
		{"a#", false, false}, {"#a", false, false}, {"##", false, false}, {"a/b#", false, false}, {"a/#b", false, false}, {"+#", false, false}, {"#+", false, false}, {"a/+#", false, false}, {"a/#+", false, false},
		{"#/", false, false}, {"#/a", false, false}, {"a/#/b", false, false}, {"a/#/", false, false}, {"#/#", false, false}, {"a/#/#", false, false}, {"#/+", false, false},
		{"\x00", false, false}, {"a\x00", false, false}, {"a/\x00/b", false, false}, {"+/\x00", false, false}, {"\x00/#", false, false},
		{"\xff", false, false}, {"a/\x80", false, false}, {"\xc3", false, false}, {"\xc3/\xa9", false, false}, {"\xc0\x80", false, false}, {"\xc0\xaf", false, false}, {"\xed\xa0\x80", false, false}, {"\xf4\x90\x80\x80", false, false}, {"a\xe6\x97", false, false}, {"+/\xff", false, false}, {"\xff/#", false, false},
	} {
		if Name(c.s) != c.name || Filter(c.s) != c.filter {
			t.Errorf("%q: name %v, filter %v", c.s, Name(c.s), Filter(c.s))
		}
	}
}

// P3.1: every byte alone, in a level and as the whole of one.
func TestEveryByte(t *testing.T) {
	for c := range 256 {
		one := string([]byte{byte(c)})
		for _, s := range []string{one, "a" + one, one + "a", "a/" + one, one + "/a", "a/" + one + "/a", "+/" + one, one + "/#", one + one} {
			if Name(s) != isName(s) || Filter(s) != isFilter(s) {
				t.Errorf("%q: name %v, filter %v", s, Name(s), Filter(s))
			}
		}
	}
}

// P3.1: at most MaxBytes bytes, whatever they are.
func TestMostBytes(t *testing.T) {
	for _, c := range []struct {
		s            string
		name, filter bool
	}{
		{long("a", most), true, true}, {long("a", most+1), false, false}, {long("/", most), true, true}, {long("/", most+1), false, false},
		{long("é", most-1) + "a", true, true}, {long("é", most+1), false, false}, {long("é", most-1) + "\xc3", false, false}, {long("a", most-1) + "\x00", false, false},
		{long("a", most-1) + "+", false, false}, {long("a", most-2) + "/+", false, true}, {long("a", most-1) + "/+", false, false},
		{long("a", most-2) + "/#", false, true}, {long("a", most-1) + "/#", false, false}, {long("+/", most-1) + "#", false, true}, {long("+/", most-1) + "+", false, true}, {long("+/", most+1), false, false},
		{"#" + long("/", most-1), false, false}, {long("a", 10*most), false, false},
	} {
		if Name(c.s) != c.name || Filter(c.s) != c.filter {
			t.Errorf("%.5q.. of %d bytes: name %v, filter %v", c.s, len(c.s), Name(c.s), Filter(c.s))
		}
	}
}

// P3.2.
func TestLevels(t *testing.T) {
	for _, c := range []struct {
		s string
		l []string
	}{
		{"", []string{""}}, {"/", []string{"", ""}}, {"//", []string{"", "", ""}}, {"a", []string{"a"}}, {"a/b/c", []string{"a", "b", "c"}}, {"/a//", []string{"", "a", "", ""}},
		{"+/#", []string{"+", "#"}}, {"#", []string{"#"}}, {"/#", []string{"", "#"}}, {"#/a+", []string{"#", "a+"}}, {"$sys/é", []string{"$sys", "é"}}, {"a\\/b", []string{"a\\", "b"}},
		{"\x00/\xff", []string{"\x00", "\xff"}}, {"\xc3/\xa9", []string{"\xc3", "\xa9"}},
	} {
		if l := Levels(c.s); !slices.Equal(l, c.l) {
			t.Errorf("Levels(%q): %q", c.s, l)
		}
	}
	if l := Levels(long("/", 3*most)); len(l) != 3*most+1 || slices.ContainsFunc(l, func(s string) bool { return s != "" }) {
		t.Error("Levels of many empty ones")
	}
	if l := Levels(long("a", 3*most) + "/b"); len(l) != 2 || len(l[0]) != 3*most || l[1] != "b" {
		t.Error("Levels of a long one")
	}
}

// P3.9.
func TestLevelsPutTogether(t *testing.T) {
	r := newRandom(1)
	for range 20000 {
		s := randomText(r)
		l := Levels(s)
		if strings.Join(l, "/") != s || !slices.Equal(l, strings.Split(s, "/")) {
			t.Fatalf("Levels(%q): %q", s, l)
		}
	}
}
