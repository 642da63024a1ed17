package retry

import (
	"slices"
	"testing"

	"conduit/api"
)

// The chapter's example 1.
func TestExampleRun(t *testing.T) {
	l := []api.Result{failed(1), gave(1), gave(2)}
	for _, c := range []struct {
		tries int64
		l     []api.Result
		want  api.Result
		made  int
	}{
		{3, l, gave(1), 2},
		{1, l, failed(1), 1},
		{0, l, failed(1), 1},
		{9, []api.Result{panicked(api.PanAssert, 0), {}}, panicked(api.PanAssert, 0), 1},
		{9, []api.Result{failed(-1), {}, {}}, failed(-1), 1},
	} {
		if got, made := runAsSaid(t, c.tries, c.l); !sameResult(got, c.want) || made != c.made {
			t.Errorf("%d tries: %s, %d", c.tries, show(got), made)
		}
	}
}

// The chapter's example 2.
func TestExampleWait(t *testing.T) {
	for _, c := range [][4]int64{{0, 5, 100, 5}, {3, 5, 100, 40}, {5, 5, 100, 100}, {200, 1, 1 << 62, 1 << 62}, {200, 0, 9, 0}, {-1, 3, 9, 3}} {
		if got := waitAsSaid(t, c[0], c[1], c[2]); got != c[3] {
			t.Errorf("%v: %d", c, got)
		}
	}
}

// The document's example 7 of the whole: fail 3 with retry 4 is tried four times.
func TestExampleFourTimes(t *testing.T) {
	l := slices.Repeat([]api.Result{failed(3)}, 9)
	if got, made := runAsSaid(t, 4, l); !sameResult(got, failed(3)) || made != 4 {
		t.Error(show(got), made)
	}
}
