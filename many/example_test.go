package many

import (
	"slices"
	"testing"

	"conduit/api"
)

// countsOf is what EvDone tell of a run.
func countsOf(r Result) (l []int64) {
	for _, e := range slices.Concat(r.Events...) {
		if e.Kind == api.EvDone {
			l = append(l, e.Result.Body.Int)
		}
	}
	return l
}

// The chapter's example 1.
func TestExampleAll(t *testing.T) {
	p := plan(t, `handler a = count; route "x" -> a;`)
	put, work := publishing("x", 5), working(9)
	l := All([]api.Job{{Plan: p, Steps: []api.Step{put, work}}, {Plan: p, Steps: []api.Step{put, put, work}}}, 3)
	if len(l) != 2 || !slices.Equal(countsOf(l[0]), []int64{1}) || !slices.Equal(countsOf(l[1]), []int64{1, 2}) {
		t.Error(l)
	}
}

// The chapter's example 2.
func TestExampleStream(t *testing.T) {
	asked := 0
	Stream(func() (api.Job, bool) {
		asked++
		return api.Job{}, false
	}, 3, func(Result) bool {
		t.Error("given")
		return true
	})
	if asked != 1 {
		t.Error(asked)
	}
}
