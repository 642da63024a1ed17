package many

import (
	"runtime"
	"slices"
	"strings"
	"sync"
	"sync/atomic"
	"testing"
	"time"
	"weak"

	"conduit/api"
)

// P34.3: next and give are never called at the same time. What both write without a lock is seen by the race detector, too.
func TestNeverBoth(t *testing.T) {
	jobs := numbered(t, 100)
	for _, workers := range []int{1, 3, 64} {
		var inside atomic.Int32
		calls := 0
		alone := func() {
			if inside.Add(1) != 1 {
				t.Error("two at a time")
			}
			calls++
			for range 20 {
				runtime.Gosched()
			}
			inside.Add(-1)
		}
		next := rowOf(jobs)
		Stream(func() (api.Job, bool) {
			alone()
			return next()
		}, workers, func(Result) bool {
			alone()
			return true
		})
		if calls != 201 {
			t.Error(workers, calls)
		}
	}
}

// P34.3: a job is not kept when it has been given: whoever has answered it may write over it then, and go on with the same memory.
func TestOverwritten(t *testing.T) {
	jobs := numbered(t, 90)
	want := oneByOne(jobs)
	for _, workers := range []int{1, 2, 5} {
		var free [][]api.Step
		var out [][]api.Step
		given := 0
		next := rowOf(jobs)
		Stream(func() (api.Job, bool) {
			job, ok := next()
			if !ok {
				return job, false
			}
			steps := make([]api.Step, 0, 100)
			if len(free) > 0 {
				steps, free = free[0], free[1:]
			}
			job.Steps = append(steps[:0], job.Steps...)
			out = append(out, job.Steps)
			return job, true
		}, workers, func(r Result) bool {
			clear(out[0])
			free, out = append(free, out[0]), out[1:]
			if !same(r, want[given]) {
				t.Error(workers, given, r)
			}
			given++
			return true
		})
		if given != len(jobs) || len(free) > 2*workers+3 {
			t.Error(workers, given, len(free))
		}
	}
}

// forgotten waits until what is pointed to is no more.
func forgotten(p weak.Pointer[api.Step]) bool {
	for range 200 {
		if runtime.GC(); p.Value() == nil {
			return true
		}
		time.Sleep(time.Millisecond)
	}
	return false
}

// P34.3: a job that has been given is kept by nobody, while others are still to come.
func TestNotKept(t *testing.T) {
	p := numbered(t, 1)[0].Plan
	for _, workers := range []int{1, 4} {
		var made []weak.Pointer[api.Step]
		given := 0
		Stream(func() (api.Job, bool) {
			if len(made) == 40 {
				return api.Job{}, false
			}
			steps := []api.Step{publishing("x", int64(len(made))), working(1)}
			made = append(made, weak.Make(&steps[0]))
			return api.Job{Plan: p, Steps: steps}, true
		}, workers, func(Result) bool {
			if given > 0 && given%8 == 0 {
				for i, w := range made[:given] {
					if !forgotten(w) {
						t.Errorf("%d workers: %d is kept when %d are given", workers, i, given)
					}
				}
			}
			given++
			return true
		})
		if given != 40 {
			t.Error(given)
		}
	}
}

// P34.3: when Stream is over nobody does a job any more, not even where jobs were out that nobody wants.
func TestNobodyAtWork(t *testing.T) {
	long := shortening(t, 300)[0]
	for range 4 {
		next := rowOf(append(numbered(t, 1), slices.Repeat([]api.Job{long}, 30)...))
		Stream(next, 8, func(Result) bool { return false })
		if strings.Contains(stacks(), "conduit/bus.Run(") {
			t.Fatal("a job is still being done")
		}
	}
}

// 0.1: a next that panics has no more jobs; those that it has answered are given.
func TestNextPanics(t *testing.T) {
	jobs := numbered(t, 30)
	want := oneByOne(jobs)
	for _, workers := range []int{1, 3, 64} {
		for _, at := range []int{0, 1, 5, 29} {
			were := goroutines()
			next := rowOf(jobs)
			asked, given := 0, 0
			Stream(func() (api.Job, bool) {
				if asked++; asked > at {
					panic("no more")
				}
				return next()
			}, workers, func(r Result) bool {
				if !same(r, want[given]) {
					t.Error(given, r)
				}
				given++
				return true
			})
			goneHome(t, were)
			if asked != at+1 || given != at {
				t.Error(workers, at, asked, given)
			}
		}
	}
}

// 0.1: a give that panics takes no more.
func TestGivePanics(t *testing.T) {
	jobs := numbered(t, 30)
	for _, workers := range []int{1, 3, 64} {
		were := goroutines()
		given := 0
		Stream(func() (api.Job, bool) { return jobs[7], true }, workers, func(Result) bool {
			given++
			if given < 20 {
				return true
			}
			panic(error(nil))
		})
		goneHome(t, were)
		if given != 20 {
			t.Error(workers, given)
		}
	}
}

// P34.3: no goroutine is left where the one that called is ended in the midst of it.
func TestCallerEnds(t *testing.T) {
	jobs := numbered(t, 30)
	for _, where := range []string{"next", "give"} {
		were := goroutines()
		calls := map[string]int{}
		called := func(s string) {
			if calls[s]++; s == where && calls[s] == 9 {
				runtime.Goexit()
			}
		}
		next := rowOf(jobs)
		var all sync.WaitGroup
		all.Go(func() {
			Stream(func() (api.Job, bool) {
				called("next")
				return next()
			}, 3, func(Result) bool {
				called("give")
				return true
			})
		})
		all.Wait()
		goneHome(t, were)
		if calls[where] != 9 {
			t.Error(where, calls)
		}
	}
}

// Whoever is called may himself let jobs be done: one Stream has nothing in common with another one.
func TestWithin(t *testing.T) {
	jobs := numbered(t, 12)
	want := oneByOne(jobs)
	next := rowOf(jobs)
	given := 0
	Stream(func() (api.Job, bool) {
		if !sameAll(All(jobs, 3), want) {
			t.Error("All within next")
		}
		return next()
	}, 2, func(r Result) bool {
		if !sameAll(streamed(jobs, 4), want) || !same(r, want[given]) {
			t.Error("Stream within give")
		}
		given++
		return true
	})
	if given != len(jobs) {
		t.Error(given)
	}
}

// Many may call at a time.
func TestManyAtATime(t *testing.T) {
	jobs := numbered(t, 40)
	want := oneByOne(jobs)
	var all sync.WaitGroup
	for workers := range 8 {
		all.Go(func() {
			for range 5 {
				if !sameAll(All(jobs, workers), want) || !sameAll(streamed(jobs, workers), want) {
					t.Error("another answer")
				}
			}
		})
	}
	all.Wait()
}
