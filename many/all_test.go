package many

import (
	"runtime"
	"slices"
	"sync/atomic"
	"testing"

	"conduit/api"
)

// P34.1: what bus.Run answers of each job, in the jobs' order, with any number of workers.
func TestAll(t *testing.T) {
	for _, n := range []int{0, 1, 2, 7, 150} {
		jobs := numbered(t, n)
		want := oneByOne(jobs)
		for workers := range numbersOfWorkers() {
			if got := All(jobs, workers); !sameAll(got, want) {
				t.Errorf("%d jobs, %d workers: %.1000v", n, workers, got)
			}
		}
	}
}

// P34.1: no jobs have no results.
func TestAllOfNone(t *testing.T) {
	for workers := range numbersOfWorkers() {
		if len(All(nil, workers)) != 0 || len(All([]api.Job{}, workers)) != 0 {
			t.Error(workers)
		}
	}
}

// P34.1: a job without steps, and one over a plan without handlers, are jobs like others.
func TestAllOfEmpty(t *testing.T) {
	jobs := []api.Job{{}, numbered(t, 2)[1], {Steps: []api.Step{publishing("x", 1)}}, {Plan: plan(t, `handler a = echo; route "x" -> a;`)}, {}}
	l := All(jobs, 2)
	if !sameAll(l, oneByOne(jobs)) || len(l[2].Events) != 1 || len(l[2].Events[0]) != 2 || len(l[3].Bus.Posts) != 1 {
		t.Error(l)
	}
}

// Jobs that are done at once, behind such as take long, come behind them all the same.
func TestLongAhead(t *testing.T) {
	for _, workers := range []int{1, 2, 5, 64} {
		jobs := shortening(t, 60)
		want := oneByOne(jobs)
		if !sameAll(All(jobs, workers), want) || !sameAll(streamed(jobs, workers), want) {
			t.Error(workers)
		}
	}
}

// mostAtATime is how many workers there are at a time at most, while something is done.
func mostAtATime(deed func()) int {
	var over, watching atomic.Bool
	seen := make(chan int)
	go func() {
		top := 0
		for !over.Load() {
			top = max(top, workersNow())
			watching.Store(true)
			runtime.Gosched()
		}
		seen <- top
	}()
	for !watching.Load() {
		runtime.Gosched()
	}
	deed()
	over.Store(true)
	return <-seen
}

// P34.1: so many workers at a time, from 1 to 64, and none is left.
func TestWorkersOfAll(t *testing.T) {
	jobs := slices.Repeat(shortening(t, 12), 10)
	for workers, n := range numbersOfWorkers() {
		top := 0
		// Whoever watches may come too late, so it is tried again.
		for try := 0; top < n && try < 500; try++ {
			noneNow(t)
			top = max(top, mostAtATime(func() { All(jobs, workers) }))
		}
		if top != n {
			t.Error(workers, top)
		}
	}
	noneNow(t)
}
