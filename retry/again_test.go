package retry

import (
	"testing"

	"conduit/api"
)

// P12.1: those that the chapter names, one by one.
func TestAgain(t *testing.T) {
	for _, r := range asking() {
		if !Again(r) {
			t.Errorf("%s is not tried again", show(r))
		}
	}
	for _, r := range ending() {
		if Again(r) {
			t.Errorf("%s is tried again", show(r))
		}
	}
}

// P12.1: every error there is, and some that are none, with every code and panic beside it.
func TestAgainOfAll(t *testing.T) {
	errors := []api.Errno{-1 << 63, -110, -101, -100, -1, 1<<32 + 100, 1<<32 + 110, 1<<63 - 1}
	for e := range api.Errno(400) {
		errors = append(errors, e)
	}
	kinds := []int{-1 << 63, -1, 1<<32 + 1, 1<<63 - 1}
	for kind := range api.NumPanics + 2 {
		kinds = append(kinds, kind)
	}
	many := 0
	for _, e := range errors {
		for _, code := range []int64{-1 << 63, -1 << 32, -2, -1, 0, 1, 2, 1 << 32, 1<<63 - 1} {
			for _, kind := range kinds {
				r := api.Result{Err: e, Code: code, Panic: api.Panic{Kind: kind, Num: code}}
				if got := Again(r); got != chapterAgain(r) {
					t.Fatalf("%s: %v", show(r), got)
				} else if got {
					many++
				}
			}
		}
	}
	// Codes of 0 or more; three errors with all; five kinds of panics.
	if want := 5*len(kinds) + 3*9*len(kinds) + 9*5; many != want {
		t.Errorf("%d are tried again, not %d", many, want)
	}
}

// P12.1: an answer beside it plays no part.
func TestAgainWithAnswer(t *testing.T) {
	for _, l := range [][]api.Result{asking(), ending()} {
		for _, r := range l {
			is := Again(r)
			r.Has = !r.Has
			r.Body = api.Datum{Kind: api.KErr, Int: 3, Text: "x"}
			if Again(r) != is {
				t.Errorf("%s: %v", show(r), !is)
			}
		}
	}
}
