package trie

import (
	"slices"
	"testing"

	"conduit/topic"
)

// someTexts is what a random test looks at: names, filters, and what is neither.
func someTexts() []string {
	return append(rows([]string{"", "a", "b", "$"}, 3), "+", "#", "a/+", "a/#", "+/#", "/#", "", "a+", "\xff")
}

// P4.1 to P4.3, of rows of calls against the chapter's words on a list.
func TestAgainstList(t *testing.T) {
	r := newRandom(1)
	filters := append(smallFilters(), "", "a+", "#/a", "a/#/b", "\xff")
	texts := someTexts()
	for range 60 {
		x, m := New(), model{}
		few := []string{}
		for range 1 + r.IntN(12) {
			few = append(few, pick(r, filters))
		}
		for range 60 {
			s := randomSub(r, few)
			if r.IntN(5) < 3 {
				if got, want := x.Add(s.filter, s.id), m.add(s); got != want {
					t.Fatalf("%v: Add(%q, %d): %v", m, s.filter, s.id, got)
				}
			} else if got, want := x.Remove(s.filter, s.id), m.remove(s); got != want {
				t.Fatalf("%v: Remove(%q, %d): %v", m, s.filter, s.id, got)
			}
			m.check(t, x, []string{pick(r, texts), pick(r, texts), pick(r, few)})
		}
		m.check(t, x, texts)
	}
}

// P4.4: the same subscriptions by another way, with others that came and went.
func TestOrderPlaysNoPart(t *testing.T) {
	r := newRandom(2)
	filters, texts := smallFilters(), someTexts()
	for range 100 {
		var subs model
		for range r.IntN(25) {
			subs.add(randomSub(r, filters))
		}
		x, y := with(t, subs...), New()
		var others model
		for range 25 {
			s := randomSub(r, filters)
			if y.Add(s.filter, s.id) {
				others = append(others, s)
			}
		}
		for _, i := range r.Perm(len(subs)) {
			y.Add(subs[i].filter, subs[i].id)
		}
		for _, i := range r.Perm(len(others)) {
			if !slices.Contains(subs, others[i]) && !y.Remove(others[i].filter, others[i].id) {
				t.Fatalf("%v: not removed", others[i])
			}
		}
		if a, b := answers(x, texts), answers(y, texts); a != b {
			t.Fatalf("%v\n%s\n%s", subs, a, b)
		}
	}
}

// P4.5: added and taken back; and the other way round.
func TestTakenBack(t *testing.T) {
	r := newRandom(3)
	filters, texts := smallFilters(), someTexts()
	for range 40 {
		x := New()
		for range r.IntN(25) {
			s := randomSub(r, filters)
			x.Add(s.filter, s.id)
		}
		before := answers(x, texts)
		for range 20 {
			s := randomSub(r, filters)
			if x.Add(s.filter, s.id) {
				if !x.Remove(s.filter, s.id) {
					t.Fatalf("%v: not removed", s)
				}
			} else if !x.Remove(s.filter, s.id) || !x.Add(s.filter, s.id) {
				t.Fatalf("%v: not there", s)
			}
			if after := answers(x, texts); after != before {
				t.Fatalf("%v: not taken back\n%s\n%s", s, before, after)
			}
		}
	}
}

// P4.6, by the trie's own Filters and Under.
func TestAllThatHasIt(t *testing.T) {
	r := newRandom(4)
	filters, names := smallFilters(), smallNames()
	for range 40 {
		x := New()
		for i := range r.IntN(60) {
			x.Add(pick(r, filters), r.IntN(i+1)-3)
		}
		for range 60 {
			n := pick(r, names)
			var want []int
			for _, f := range x.Filters() {
				if topic.Match(f, n) {
					want = append(want, x.Under(f)...)
				}
			}
			slices.Sort(want)
			if got := x.Match(n); !slices.Equal(got, slices.Compact(want)) {
				t.Fatalf("%q: Match(%q): %v", x.Filters(), n, got)
			}
		}
	}
}

// P4.7: the number under a covered filter, too, is heard no more and no less.
func TestCoveredChangesNothing(t *testing.T) {
	r := newRandom(5)
	filters, names := smallFilters(), rows([]string{"", "a", "c", "$"}, 4)
	covered := 0
	for range 4000 {
		f, g := pick(r, filters), pick(r, filters)
		if f == g || !topic.Covers(f, g) {
			continue
		}
		covered++
		one, both := with(t, sub{f, 5}, sub{"a/+", 6}), with(t, sub{f, 5}, sub{"a/+", 6}, sub{g, 5})
		for _, n := range names {
			if !slices.Equal(one.Match(n), both.Match(n)) {
				t.Fatalf("%q covers %q: Match(%q): %v, %v", f, g, n, one.Match(n), both.Match(n))
			}
		}
	}
	if covered < 50 {
		t.Errorf("only %d pairs looked at", covered)
	}
}
