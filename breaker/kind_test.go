package breaker

import (
	"testing"

	"conduit/api"
)

// P14.2: each kind's results, whatever stands beside the error.
func TestKind(t *testing.T) {
	for _, c := range []struct {
		l    []api.Result
		want int
	}{{goods(), 1}, {bads(), -1}, {neithers(), 0}} {
		for _, r := range c.l {
			if got := Kind(r); got != c.want {
				t.Errorf("%v: %d, not %d", r, got, c.want)
			}
			other := r
			other.Has, other.Code, other.Panic.Kind = !r.Has, ^r.Code, r.Panic.Kind+1
			other.Body = api.Datum{Kind: api.KErr, Int: 100, Text: "x"}
			if got := Kind(other); got != c.want {
				t.Errorf("%v: %d, not %d", other, got, c.want)
			}
		}
	}
}

// P14.2: every error there is, and some that are none.
func TestKindOfAll(t *testing.T) {
	counts := map[int]int{}
	for e := range api.Errno(1000) {
		got := Kind(of(e))
		if got != chapterKind(of(e)) {
			t.Errorf("error %d: %d", e, got)
		}
		counts[got]++
	}
	if counts[1] != 1 || counts[-1] != 3 || counts[0] != 996 {
		t.Error(counts)
	}
	for _, e := range []api.Errno{-1 << 63, -1000, -110, -101, -100, -1, 1 << 32, 1<<32 + 100, 1<<32 + 101, 1<<32 + 110, 1<<63 - 1} {
		if Kind(of(e)) != 0 {
			t.Errorf("error %d: %d", e, Kind(of(e)))
		}
	}
}
