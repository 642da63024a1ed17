package dedup

import (
	"testing"

	"conduit/api"
)

// The chapter's example 1.
func TestExampleSeen(t *testing.T) {
	var st api.Dedup
	for i, c := range []struct {
		id    int64
		known bool
		want  api.Dedup
	}{
		{5, false, of(5)},
		{5, true, of(5)},
		{6, false, of(5, 6)},
		{7, false, of(6, 7)},
		{6, true, of(6, 7)},
		{5, false, of(7, 5)},
	} {
		var known bool
		if st, known = seenAsSaid(t, st, 2, c.id); known != c.known || !same(st, c.want) {
			t.Errorf("%d: %v, %v", i, st, known)
		}
	}
}
