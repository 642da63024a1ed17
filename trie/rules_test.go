package trie

import (
	"slices"
	"strings"
	"testing"
)

// 0.3: the same again, whatever was asked in between, and however a map is gone through.
func TestSameAgain(t *testing.T) {
	x := New()
	for i, f := range smallFilters() {
		x.Add(f, i)
		x.Add(f, -i)
	}
	texts := someTexts()
	first := answers(x, texts)
	for range 5 {
		if answers(x, texts) != first {
			t.Fatal("not the same again")
		}
	}
}

// 0.4: each list is a new one, spare room and all; scribbling there changes nothing.
func TestListsAreNew(t *testing.T) {
	x := with(t, sub{"a", 1}, sub{"a", 2}, sub{"a", 3}, sub{"+", 2}, sub{"a/#", 9}, sub{"b/c", 1})
	texts := []string{"a", "a/b", "b/c", "+", "a/#"}
	before := answers(x, texts)
	for _, s := range texts {
		for _, l := range [][]int{x.Match(s), x.Under(s)} {
			for i := range l[:cap(l)] {
				l[:cap(l)][i] = -77
			}
		}
	}
	l := x.Filters()
	for i := range l[:cap(l)] {
		l[:cap(l)][i] = "scribbled"
	}
	if after := answers(x, texts); after != before {
		t.Errorf("%s\n%s", before, after)
	}
	if m, u := x.Match("a/x"), x.Under("a/#"); !slices.Equal(m, u) || &m[0] == &u[0] {
		t.Error("two answers share memory")
	}
}

// 0.6: what answers false has changed nothing.
func TestFalseChangesNothing(t *testing.T) {
	x := with(t, sub{"a/b", 1}, sub{"a", 2}, sub{"a/#", 3}, sub{"/", 4})
	texts := append(someTexts(), "a/b/c")
	before := answers(x, texts)
	for _, s := range append(wrongTexts(), "a/b", "a", "a/#", "/") {
		for id := range 6 {
			if slices.Contains(x.Under(s), id) {
				if x.Add(s, id) {
					t.Fatalf("Add(%q, %d) again", s, id)
				}
			} else if x.Remove(s, id) {
				t.Fatalf("Remove(%q, %d), which is not there", s, id)
			}
		}
	}
	if after := answers(x, texts); after != before {
		t.Errorf("%s\n%s", before, after)
	}
}

// FuzzCalls makes the calls that lines of a text tell ("-" ahead: Remove), and holds all answers against the chapter's words.
func FuzzCalls(f *testing.F) {
	f.Add("a/+\na/#\na/b\n+\n-a/b\n-a/x", "a/b")
	f.Add("/\n//\n-/\n/#\n#\n$\n$/#", "$")
	f.Add("a+\n\n\xff\n-\n+/#\n+/#\n-+/#", "/")
	f.Fuzz(func(t *testing.T, calls, name string) {
		x, m := New(), model{}
		for i, line := range strings.Split(calls, "\n") {
			filter, remove := strings.CutPrefix(line, "-")
			s := sub{filter, i % 2}
			if remove {
				if x.Remove(s.filter, s.id) != m.remove(s) {
					t.Fatalf("%q: Remove(%q)", calls, filter)
				}
			} else if x.Add(s.filter, s.id) != m.add(s) {
				t.Fatalf("%q: Add(%q)", calls, filter)
			}
		}
		m.check(t, x, []string{name, "a", "a/b", "$", "/"})
	})
}
