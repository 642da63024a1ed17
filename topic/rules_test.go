package topic

import (
	"slices"
	"strings"
	"testing"
)

// callAll makes every call with the two texts.
func callAll(a, b string) []any {
	n, ok := Common(a, b)
	out := []any{Name(a), Filter(a), Match(a, b), Covers(a, b), Meets(a, b), n, ok}
	for _, level := range Levels(a) {
		out = append(out, level)
	}
	return out
}

// 0.3: the same again for the same, whatever was asked in between.
func TestSameAgain(t *testing.T) {
	r := newRandom(6)
	for range 5000 {
		a, b := randomText(r), randomText(r)
		first := callAll(a, b)
		callAll(b, a)
		if !slices.Equal(first, callAll(strings.Clone(a), strings.Clone(b))) {
			t.Fatalf("%q, %q: not the same again", a, b)
		}
	}
}

// 0.4: each list is a new one, spare room and all.
func TestLevelsAreNew(t *testing.T) {
	for _, s := range []string{"", "a", "a/b/c", "//", "+/#"} {
		first, second := Levels(s), Levels(s)
		for i := range first[:cap(first)] {
			first[:cap(first)][i] = "scribbled"
		}
		if want := strings.Split(s, "/"); !slices.Equal(second, want) || !slices.Equal(Levels(s), want) {
			t.Errorf("Levels(%q) is not new", s)
		}
	}
}

// 0.1, and all promises that two texts and a name can break.
func FuzzTexts(f *testing.F) {
	for _, s := range []string{"", "a", "/", "+/#", "/#", "#", "$sys/+", "a/+/c", "a//c", "a\x00", "\xff", "a+", "#/"} {
		f.Add(s, "a/#", "a/b")
		f.Add("+/#", s, s)
	}
	f.Fuzz(func(t *testing.T, a, b, name string) {
		if Name(a) != isName(a) || Filter(a) != isFilter(a) || !slices.Equal(Levels(a), strings.Split(a, "/")) {
			t.Errorf("%q: %v, %v, %q", a, Name(a), Filter(a), Levels(a))
		}
		if Match(a, name) != (isFilter(a) && isName(name) && has(a, name)) {
			t.Errorf("Match(%q, %q): %v", a, name, Match(a, name))
		}
		n, meets := Common(a, b)
		if meets != Meets(a, b) || meets && !(Match(a, n) && Match(b, n)) || !meets && (n != "" || Match(a, name) && Match(b, name)) {
			t.Errorf("Common(%q, %q): %q, %v; %q", a, b, n, meets, name)
		}
		if Covers(a, b) && (!meets || Match(b, name) && !Match(a, name)) {
			t.Errorf("Covers(%q, %q), but %q", a, b, name)
		}
	})
}
