package caps

import (
	"slices"
	"testing"

	"conduit/api"
)

// 0.3: the same again, whatever was asked in between.
func TestSameAgain(t *testing.T) {
	type answer struct {
		text       string
		fix, grow  api.Caps
		valid, has bool
	}
	first := []answer{}
	for round := range 3 {
		for i, c := range append(allSets(), beyond()...) {
			back, ok := Parse(Text(c))
			got := answer{Text(c), Fix(c), Grow(c), Valid(c), ok && back == c}
			if round == 0 {
				first = append(first, got)
			} else if got != first[i] {
				t.Fatalf("%b: %v, then %v", c, first[i], got)
			}
		}
	}
}

// 0.4: each list is a new one, spare room and all.
func TestListsAreNew(t *testing.T) {
	for _, c := range allSets() {
		l := Groups(c)
		want := slices.Clone(l)
		for i := range l[:cap(l)] {
			l[:cap(l)][i] = -77
		}
		if got := Groups(c); !slices.Equal(got, want) {
			t.Fatalf("%q: %v, then %v", Text(c), want, got)
		}
	}
}

// FuzzParse looks for texts that are read otherwise than they are written.
func FuzzParse(f *testing.F) {
	for _, s := range append(noTexts()[:30], "", "flush until", "close", "flush close batch ack ping reset save load name until open") {
		f.Add(s)
	}
	texts := map[string]api.Caps{}
	for _, c := range allSets() {
		texts[chapterText(c)] = c
	}
	f.Fuzz(func(t *testing.T, s string) {
		want, is := texts[s]
		if got, ok := Parse(s); ok != is || got != want {
			t.Errorf("%q: %v %v", s, members(got), ok)
		}
		if which := Number(s); which != slices.Index(chapterWords(), s) {
			t.Errorf("%q: %d", s, which)
		}
	})
}
