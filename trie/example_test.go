package trie

import (
	"slices"
	"testing"
)

func exampleOne(t *testing.T) *Trie {
	return with(t, sub{"a/+", 1}, sub{"a/#", 2}, sub{"a/b", 1}, sub{"+", 3})
}

// The chapter's example 1.
func TestExampleMatch(t *testing.T) {
	x := exampleOne(t)
	if !slices.Equal(x.Match("a/b"), []int{1, 2}) || !slices.Equal(x.Match("a"), []int{2, 3}) || len(x.Match("$a")) != 0 || x.Nodes() != 5 || x.Len() != 4 {
		t.Error(answers(x, []string{"a/b", "a", "$a"}))
	}
}

// The chapter's example 2.
func TestExampleRemove(t *testing.T) {
	x := exampleOne(t)
	if x.Add("a/+", 1) {
		t.Error("added again")
	}
	if !x.Remove("a/b", 1) || x.Nodes() != 4 || !slices.Equal(x.Match("a/b"), []int{1, 2}) || x.Remove("a/x", 1) {
		t.Error(answers(x, []string{"a/b"}))
	}
}

// The chapter's example 3.
func TestExampleFilters(t *testing.T) {
	x := exampleOne(t)
	if !slices.Equal(x.Filters(), []string{"+", "a/#", "a/+", "a/b"}) || !slices.Equal(x.Under("a/#"), []int{2}) || x.Add("a+", 1) {
		t.Error(answers(x, []string{"a/#"}))
	}
}
