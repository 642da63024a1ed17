package trie

import (
	"fmt"
	"math/rand/v2"
	"slices"
	"strings"
	"testing"

	"conduit/topic"
)

const most = 65535

// sub is a subscription.
type sub struct {
	filter string
	id     int
}

// model is the chapter's words on a plain list of subscriptions.
type model []sub

func (m *model) add(s sub) bool {
	if !topic.Filter(s.filter) || slices.Contains(*m, s) {
		return false
	}
	*m = append(*m, s)
	return true
}

func (m *model) remove(s sub) bool {
	i := slices.Index(*m, s)
	if i < 0 {
		return false
	}
	*m = slices.Delete(*m, i, i+1)
	return true
}

func (m model) match(name string) []int {
	return m.numbers(func(filter string) bool { return topic.Match(filter, name) })
}

func (m model) under(filter string) []int {
	return m.numbers(func(f string) bool { return f == filter })
}

func (m model) numbers(is func(filter string) bool) []int {
	var l []int
	for _, s := range m {
		if is(s.filter) {
			l = append(l, s.id)
		}
	}
	slices.Sort(l)
	return slices.Compact(l)
}

func (m model) filters() []string {
	var l []string
	for _, s := range m {
		l = append(l, s.filter)
	}
	slices.SortFunc(l, strings.Compare)
	return slices.Compact(l)
}

// nodes counts the beginnings, each written with a "/" behind every level.
func (m model) nodes() int {
	seen := map[string]bool{}
	for _, s := range m {
		begin := ""
		for _, level := range strings.Split(s.filter, "/") {
			begin += level + "/"
			seen[begin] = true
		}
	}
	return len(seen)
}

// check holds all that a trie answers against the model.
func (m model) check(t *testing.T, x *Trie, names []string) {
	t.Helper()
	if x.Len() != len(m) || x.Nodes() != m.nodes() || !slices.Equal(x.Filters(), m.filters()) {
		t.Fatalf("%v: Len %d, Nodes %d, Filters %q", m, x.Len(), x.Nodes(), x.Filters())
	}
	for _, f := range m.filters() {
		if got := x.Under(f); !slices.Equal(got, m.under(f)) {
			t.Fatalf("%v: Under(%q): %v", m, f, got)
		}
	}
	for _, n := range names {
		if got := x.Match(n); !slices.Equal(got, m.match(n)) {
			t.Fatalf("%v: Match(%q): %v, not %v", m, n, got, m.match(n))
		}
		if got := x.Under(n); !slices.Equal(got, m.under(n)) {
			t.Fatalf("%v: Under(%q): %v", m, n, got)
		}
	}
}

// answers is all that a trie answers of these texts.
func answers(x *Trie, texts []string) string {
	var b strings.Builder
	fmt.Fprintf(&b, "%d %d %q\n", x.Len(), x.Nodes(), x.Filters())
	for _, s := range texts {
		fmt.Fprintf(&b, "%q %v %v\n", s, x.Match(s), x.Under(s))
	}
	return b.String()
}

// with is a trie with these subscriptions, which are to be new and right.
func with(t *testing.T, subs ...sub) *Trie {
	t.Helper()
	x := New()
	for _, s := range subs {
		if !x.Add(s.filter, s.id) {
			t.Fatalf("Add(%q, %d): false", s.filter, s.id)
		}
	}
	return x
}

// rows is all rows of up to so many levels, put together with "/".
func rows(levels []string, most int) []string {
	var out []string
	last := []string{""}
	for range most {
		var next []string
		for _, s := range last {
			for _, level := range levels {
				next = append(next, s+level+"/")
				out = append(out, s+level)
			}
		}
		last = next
	}
	return slices.DeleteFunc(out, func(s string) bool { return s == "" })
}

// smallFilters is all filters of up to three levels of these.
func smallFilters() []string {
	return slices.DeleteFunc(rows([]string{"", "a", "b", "$", "+", "#"}, 3), func(s string) bool { return !topic.Filter(s) })
}

// smallNames has one level more than smallFilters, and one that none of those has.
func smallNames() []string { return rows([]string{"", "a", "b", "c", "$"}, 4) }

// wrongTexts are no filters, and so no names.
func wrongTexts() []string {
	return []string{"", "a+", "+a", "a/b+", "a#", "#a", "#/", "#/a", "a/#/b", "##", "+#", "\x00", "a/\x00", "+/\x00", "\xff", "a/\xc3/b", "\xff/#", long("a", most+1), long("/", most+1), long("a", most) + "/#"}
}

func newRandom(seed uint64) *rand.Rand { return rand.New(rand.NewPCG(seed, 4)) }

func pick(r *rand.Rand, l []string) string { return l[r.IntN(len(l))] }

// randomSub is one of few, so that many are there already.
func randomSub(r *rand.Rand, filters []string) sub { return sub{pick(r, filters), r.IntN(4) - 1} }

func long(level string, bytes int) string { return strings.Repeat(level, bytes/len(level)) }
