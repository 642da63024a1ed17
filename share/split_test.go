package share

import (
	"strings"
	"testing"
)

// P30.1: what is not shared is its own filter.
func TestSplitNotShared(t *testing.T) {
	for _, s := range []string{"a", "a/b", "+/#", "#", "/", "$sys/#", "$share", "$shar", "$shares/g/a", "$SHARE/g/a", "share/g/a", "/$share/g/a", "+/g/a", long("a", mostBytes), "\u00e4"} {
		if name, filter, ok := splitAsSaid(t, s); name != "" || filter != s || !ok {
			t.Errorf("%q: %q, %q, %v", s, name, filter, ok)
		}
	}
}

// P30.1: the group's name ends at the first "/" behind it; the filter may have more of them, and may look shared itself.
func TestSplitShared(t *testing.T) {
	for _, x := range [][2]string{{"g", "a"}, {"g", "/"}, {"g", "//a"}, {"$", "#"}, {"$share", "$share/a"}, {"g", "$share/h/a"}, {"g", "$share"}, {" ", " "}, {"\u00e4", "+"}, {"\U0001f600", "+/#"}, {"\x01\x7f", "\x01"}, {"g", long("a", mostBytes)}, {long("g", 2*mostBytes), "a"}} {
		if name, filter, ok := splitAsSaid(t, "$share/"+x[0]+"/"+x[1]); name != x[0] || filter != x[1] || !ok {
			t.Errorf("%.30q: %.30q, %.30q, %v", x, name, filter, ok)
		}
	}
}

// P30.1, 0.5: "", "" and false of what can't be subscribed to.
func TestSplitWrong(t *testing.T) {
	for _, s := range wrongTexts() {
		if name, filter, ok := splitAsSaid(t, s); name != "" || filter != "" || ok {
			t.Errorf("%.30q: %.30q, %.30q, %v", s, name, filter, ok)
		}
	}
}

// P30.1: each byte and each pair of them, in a group's name.
func TestSplitEveryByte(t *testing.T) {
	for a := range 256 {
		splitAsSaid(t, "$share/"+string([]byte{byte(a)})+"/x")
		for b := range 256 {
			splitAsSaid(t, "$share/g"+string([]byte{byte(a), byte(b)})+"/x")
		}
	}
}

// P30.1, of all texts of a few pieces.
func TestSplitSmall(t *testing.T) {
	pieces := []string{"$share/", "$share", "g", "/", "+", "#", "\x00", "\xff", "\u00e4", "$", ""}
	shared := 0
	last := []string{""}
	for range 5 {
		var next []string
		for _, s := range last {
			for _, piece := range pieces {
				next = append(next, s+piece)
			}
		}
		for _, s := range next {
			if name, filter, ok := splitAsSaid(t, s); ok && name != "" && s == strings.Join([]string{"$share", name, filter}, "/") {
				shared++
			}
		}
		last = next
	}
	if shared < 1000 {
		t.Errorf("only %d of them are shared", shared)
	}
}
