package trie

import (
	"math"
	"slices"
	"strings"
	"testing"

	"conduit/topic"
)

// P4.1.
func TestNew(t *testing.T) {
	x := New()
	model{}.check(t, x, append(wrongTexts(), "a", "/", "+", "#"))
	if y := New(); !y.Add("a", 1) || x.Len() != 0 || x.Add("a", 1) != true || y.Len() != 1 {
		t.Error("two tries are not each for itself")
	}
}

// P4.1: true just if it was not there.
func TestAddAndRemove(t *testing.T) {
	x := New()
	for i, c := range []struct {
		add    bool
		filter string
		id     int
		is     bool
	}{
		{false, "a", 1, false}, {true, "a", 1, true}, {true, "a", 1, false}, {true, "a", 2, true}, {true, "b", 1, true}, {true, "a/", 1, true}, {true, "/a", 1, true}, {true, "a/b", 1, true}, {false, "a/+", 1, false}, {false, "a/#", 1, false}, {false, "+", 1, false}, {false, "#", 1, false}, {false, "a/b/c", 1, false},
		{true, "/", 1, true}, {true, "//", 1, true}, {true, "/", 1, false}, {false, "//", 2, false}, {false, "//", 1, true}, {false, "//", 1, false}, {true, "/", 1, false}, {true, "//", 1, true},
		{true, "#", -1, true}, {true, "+", -1, true}, {true, "+/#", -1, true}, {true, "/#", 0, true}, {true, "#", -1, false}, {false, "#", 1, false}, {false, "#", -1, true}, {false, "#", -1, false}, {true, "+/#", -1, false},
		{true, "A", 1, true}, {true, "é", 1, true}, {true, "e\u0301", 1, true}, {true, "$", 1, true}, {true, "$/#", 1, true}, {false, "a", 2, true}, {false, "a", 2, false}, {true, "a", 1, false}, {false, "a", 1, true}, {true, "a/b", 1, false},
		{true, "a", math.MaxInt, true}, {true, "a", math.MinInt, true}, {true, "a", math.MaxInt, false}, {false, "a", math.MaxInt - 1, false}, {false, "a", math.MinInt, true}, {false, "a", math.MinInt, false},
	} {
		call := x.Remove
		if c.add {
			call = x.Add
		}
		if call(c.filter, c.id) != c.is {
			t.Errorf("step %d, %v %q %d: %v", i, c.add, c.filter, c.id, !c.is)
		}
	}
}

// P4.1: what is no filter can't be added, and is not there, whatever stands on the way to it.
func TestWrongFilters(t *testing.T) {
	subs := model{{"a", 1}, {"/", 1}, {"a/b/c", 1}, {"#", 1}, {"a/#", 1}, {"+/+", 1}, {"a/+/b", 1}}
	x := with(t, subs...)
	for _, s := range append(wrongTexts(), "a/+b", "a/b#", "a/#/", "a/b/c\x00") {
		if x.Add(s, 1) || x.Remove(s, 1) || len(x.Under(s)) != 0 || len(x.Match(s)) != 0 {
			t.Errorf("%.10q: no filter", s)
		}
		subs.check(t, x, []string{"a", "/", "a/b", "a/b/c", "$"})
	}
}

// A Trie that New did not give has nothing, and stays so.
func TestNobodys(t *testing.T) {
	plain := Trie{}
	for _, x := range []*Trie{nil, {}, new(Trie), &plain} {
		for range 2 {
			if x.Add("a", 1) || x.Remove("a", 1) || x.Add("a+", 1) || x.Add("#", 0) || x.Remove("", 0) {
				t.Error("Add or Remove")
			}
			if len(x.Match("a")) != 0 || len(x.Match("")) != 0 || len(x.Filters()) != 0 || len(x.Under("a")) != 0 || x.Len() != 0 || x.Nodes() != 0 {
				t.Error("not empty")
			}
		}
	}
	if plain != (Trie{}) {
		t.Error("it did not stay so")
	}
}

// P4.2.
func TestMatch(t *testing.T) {
	x := with(t, sub{"a", 1}, sub{"a/b", 2}, sub{"+", 3}, sub{"a/+", 4}, sub{"+/b", 5}, sub{"+/+", 6}, sub{"#", 7}, sub{"a/#", 8}, sub{"+/#", 9}, sub{"/#", 10}, sub{"/", 11}, sub{"$s", 12}, sub{"$s/#", 13}, sub{"$s/+", 14}, sub{"a/b/#", 15}, sub{"a/+/c", 16}, sub{"a//c", 17}, sub{"+/$s", 18}, sub{"a/", 19})
	for n, want := range map[string][]int{
		"a": {1, 3, 7, 8, 9}, "b": {3, 7, 9}, "a/b": {2, 4, 5, 6, 7, 8, 9, 15}, "b/b": {5, 6, 7, 9}, "b/c": {6, 7, 9}, "/": {6, 7, 9, 10, 11}, "//": {7, 9, 10}, "/b": {5, 6, 7, 9, 10}, "a/": {4, 6, 7, 8, 9, 19}, "a/b/c": {7, 8, 9, 15, 16}, "a//c": {7, 8, 9, 16, 17}, "a/b/c/d": {7, 8, 9, 15},
		"$s": {12, 13}, "$s/": {13, 14}, "$s/b": {13, 14}, "$s/a/b": {13}, "$": nil, "$s1": nil, "$t/b": nil, "$/": nil, "a/$s": {4, 6, 7, 8, 9, 18}, "/$s": {6, 7, 9, 10, 18}, "s$": {3, 7, 9}, "A": {3, 7, 9}, "é": {3, 7, 9},
		"": nil, "+": nil, "#": nil, "a/+": nil, "a/#": nil, "+/b": nil, "a+": nil, "$s/#": nil, "$s/+": nil, "a\x00": nil, "\xff": nil, "a/\xff": nil,
	} {
		if got := x.Match(n); !slices.Equal(got, want) {
			t.Errorf("Match(%q): %v, not %v", n, got, want)
		}
	}
	for _, n := range wrongTexts() {
		if len(x.Match(n)) != 0 {
			t.Errorf("Match(%.10q), which is no name", n)
		}
	}
}

// P4.2: rising, each once, whatever the order and however many filters have the name.
func TestMatchRisesOnce(t *testing.T) {
	x := New()
	ids := []int{5, -1, math.MaxInt, 0, math.MinInt, 7, -9, 5000000000, -5000000000, 1}
	for i, f := range []string{"a/b", "a/+", "+/b", "+/+", "#", "a/#", "+/#", "a/b/#", "a/+/#"} {
		for j := range ids {
			x.Add(f, ids[(i+j)%len(ids)])
		}
	}
	slices.Sort(ids)
	if got := x.Match("a/b"); !slices.Equal(got, ids) {
		t.Error(got)
	}
}

// P4.2: of all small filters and names, each filter alone and all together.
func TestMatchOfAllSmall(t *testing.T) {
	all := New()
	filters, names := smallFilters(), smallNames()
	for i, f := range filters {
		if !all.Add(f, i) {
			t.Fatalf("Add(%q)", f)
		}
	}
	for _, n := range names {
		var want []int
		for i, f := range filters {
			if topic.Match(f, n) {
				want = append(want, i)
			}
		}
		if got := all.Match(n); !slices.Equal(got, want) {
			t.Fatalf("Match(%q): %v, not %v", n, got, want)
		}
	}
	for _, f := range filters {
		x := with(t, sub{f, -1})
		for _, n := range names {
			if is := topic.Match(f, n); is != (len(x.Match(n)) == 1) {
				t.Fatalf("%q of %q: %v", f, n, !is)
			}
		}
	}
}

// P4.3: Filters by their bytes, not by their levels or letters.
func TestFilters(t *testing.T) {
	x := New()
	want := []string{"", "!", "#", "$", "+", "+/#", "/", "/#", "//", "A", "a", "a!", "a!/b", "a/", "a/#", "a/+", "a//b", "a/b", "a0", "aé", "b", "z", "é", "日", "\U0001d11e"}[1:]
	for i := range want {
		// Not in their order, and some twice.
		f := want[i*7%len(want)]
		if !x.Add(f, i) || x.Add(f, i) || !x.Add(f, i+1) {
			t.Fatalf("Add(%q)", f)
		}
	}
	if got := x.Filters(); !slices.Equal(got, want) || x.Len() != 2*len(want) {
		t.Errorf("%q, %d", got, x.Len())
	}
	for i, f := range want {
		x.Remove(f, i*7)
		if len(x.Under(f)) == 0 != !slices.Contains(x.Filters(), f) {
			t.Errorf("%q: has it numbers, or has it none?", f)
		}
	}
}

// P4.3: just this filter's own, not those of filters that have the same names.
func TestUnder(t *testing.T) {
	x := with(t, sub{"#", 3}, sub{"+/#", 1}, sub{"#", -2}, sub{"a/b/c", 7}, sub{"a/b/c", 6}, sub{"a", 9}, sub{"a/", 8}, sub{"/#", 4})
	for f, want := range map[string][]int{
		"#": {-2, 3}, "+/#": {1}, "a/b/c": {6, 7}, "a": {9}, "a/": {8}, "/#": {4}, "/+/#": nil, "+": nil, "a/b": nil, "a/b/c/d": nil, "a/b/+": nil, "a/#": nil, "/": nil, "": nil, "/a": nil, "A": nil, "b": nil,
	} {
		if got := x.Under(f); !slices.Equal(got, want) {
			t.Errorf("Under(%q): %v", f, got)
		}
	}
}

// P4.3: a node for each beginning, that go away with the last subscription beyond them.
func TestNodes(t *testing.T) {
	x := New()
	for i, c := range []struct {
		add    bool
		filter string
		id     int
		nodes  int
	}{
		{true, "a/b/c", 1, 3}, {true, "a/b/c", 2, 3}, {true, "a/b", 1, 3}, {true, "a", 1, 3}, {true, "a/b/d", 1, 4}, {false, "a/b/c", 1, 4}, {false, "a/b/c", 2, 3}, {false, "a/b", 1, 3}, {false, "a", 1, 3}, {false, "a/b/d", 1, 0},
		{true, "/", 1, 2}, {true, "//", 1, 3}, {true, "a/", 1, 5}, {true, "/a", 1, 6}, {false, "/", 1, 6}, {false, "//", 1, 4}, {false, "/a", 1, 2}, {false, "a/", 1, 0},
		{true, "+", 0, 1}, {true, "#", 0, 2}, {true, "+/#", 0, 3}, {true, "+/+/#", 0, 5}, {true, "/#", 0, 7}, {false, "+/#", 0, 6}, {false, "+", 0, 6}, {false, "+/+/#", 0, 3}, {false, "#", 0, 2}, {false, "/#", 0, 0},
		// What answers false makes no nodes, and takes none away.
		{true, "a/b", 1, 2}, {true, "a/b", 1, 2}, {true, "a/c+", 1, 2}, {true, "a/b/#/c", 1, 2}, {false, "a/b", 2, 2}, {false, "a", 1, 2}, {false, "a/b/c", 1, 2}, {false, "a/+", 1, 2}, {false, "", 1, 2}, {false, "c/d", 1, 2}, {false, "a/b", 1, 0}, {false, "a/b", 1, 0},
		// The same levels at other places are other nodes.
		{true, "a/a/a", 1, 3}, {true, "b/a/a", 1, 6}, {true, "a/b/a", 1, 8}, {true, "$/a", 1, 10}, {false, "a/a/a", 1, 8},
	} {
		if c.add {
			x.Add(c.filter, c.id)
		} else {
			x.Remove(c.filter, c.id)
		}
		if x.Nodes() != c.nodes {
			t.Fatalf("step %d, %v %q: %d nodes, not %d", i, c.add, c.filter, x.Nodes(), c.nodes)
		}
	}
}

// At MaxBytes, and with as many levels as there can be.
func TestLongFilters(t *testing.T) {
	deep, broad, wild, tail := long("/", most), long("a", most), long("+/", most-1)+"+", long("+/", most-1)+"#"
	x := with(t, sub{deep, 1}, sub{broad, 2}, sub{wild, 3}, sub{tail, 4})
	if x.Add(deep+"/", 1) || x.Add(broad+"a", 1) || x.Remove(deep+"/", 1) || x.Len() != 4 {
		t.Error("one byte too many")
	}
	// wild and tail part at their last level alone.
	if want := most + 1 + 1 + most/2 + 2; x.Nodes() != want {
		t.Errorf("%d nodes, not %d", x.Nodes(), want)
	}
	for n, want := range map[string][]int{
		deep: {1, 4}, broad: {2}, deep[1:]: {4}, deep[:most/2]: {3, 4}, deep[:most/2-1]: {4}, deep[:most/2-2]: nil, deep + "/": nil, broad + "a": nil, broad[1:]: nil, "$" + deep[:most/2]: nil, "a" + deep[:most/2]: {3, 4},
	} {
		if got := x.Match(n); !slices.Equal(got, want) {
			t.Errorf("Match(%.3q.. of %d bytes): %v", n, len(n), got)
		}
	}
	if got := x.Filters(); !slices.Equal(got, []string{tail, wild, deep, broad}) {
		t.Error("Filters")
	}
	if !x.Remove(tail, 4) || !x.Remove(broad, 2) || !x.Remove(deep, 1) || x.Nodes() != most/2+1 || !x.Remove(wild, 3) || x.Nodes() != 0 {
		t.Errorf("%d nodes left", x.Nodes())
	}
}

// Many numbers under one filter, and many filters below one level.
func TestMany(t *testing.T) {
	const many = 20000
	x := New()
	for i := range many {
		if !x.Add("a/#", i*7919%many) || !x.Add("a/"+strings.Repeat("b", i%3)+string(rune(0x4e00+i)), -i) {
			t.Fatal(i)
		}
	}
	got := x.Under("a/#")
	if x.Len() != 2*many || x.Nodes() != many+2 || len(got) != many || !slices.IsSorted(got) || got[many-1] != many-1 || len(x.Filters()) != many+1 || len(x.Match("a/\u4e03")) != many+1 {
		t.Error(x.Len(), x.Nodes(), len(got), len(x.Filters()), len(x.Match("a/\u4e03")))
	}
}
