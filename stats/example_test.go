package stats

import (
	"slices"
	"testing"

	"conduit/api"
)

// The chapter's example 1.
func TestExampleCounts(t *testing.T) {
	l := []api.Event{published(1, 3), named(api.EvQueued, 1, 0), result(1, 0, api.OK, 5), result(1, 0, api.ErrPanic, 9)}
	if c := countAsSaid(t, 1, l); !slices.Equal(c, []api.Counts{{Queued: 1, Done: 2, Good: 1, Panics: 1, Wait: 8, Longest: 6}}) {
		t.Error(c)
	}
	if w := waitsAsSaid(t, 1, l); !sameWaits(w, [][]int64{{2, 6}}) {
		t.Error(w)
	}
}

// The chapter's example 2.
func TestExampleMiddle(t *testing.T) {
	for thousandths, want := range map[int]int64{500: 5, 499: 1, 1000: 9} {
		if x, ok := Middle([]int64{1, 5, 9}, thousandths); x != want || !ok {
			t.Error(thousandths, x, ok)
		}
	}
}
