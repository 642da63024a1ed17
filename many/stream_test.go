package many

import (
	"testing"

	"conduit/api"
)

// talk is the calls that Stream makes, held against the chapter while they come.
type talk struct {
	t           *testing.T
	workers     int
	jobs        []api.Job // what next answers, before its false
	endless     bool      // next begins anew behind the last one
	until       int       // how many are given until give answers false; 0: all
	want        []Result
	asked       int
	given       int
	askedBehind int // how often next was asked behind give's false
	said        string
}

func (x *talk) next() (api.Job, bool) {
	x.said += "n"
	if out := x.asked - x.given; out > mostOut(x.workers) {
		x.t.Errorf("%d workers: asked while %d are out", x.workers, out)
	}
	if x.asked > len(x.jobs) && !x.endless {
		x.t.Errorf("%d workers: asked behind the false", x.workers)
	}
	if x.stopped() {
		x.askedBehind++
	}
	x.asked++
	if x.asked > len(x.jobs) && !x.endless {
		return api.Job{}, false
	}
	return x.jobs[(x.asked-1)%len(x.jobs)], true
}

func (x *talk) give(r Result) bool {
	x.said += "g"
	if x.stopped() {
		x.t.Errorf("%d workers: given behind give's false", x.workers)
	}
	if !same(r, x.want[x.given%len(x.want)]) {
		x.t.Errorf("%d workers: another one at %d: %.1000v", x.workers, x.given, r)
	}
	x.given++
	return !x.stopped()
}

func (x *talk) stopped() bool { return x.until > 0 && x.given >= x.until }

// hold lets Stream go, and looks at what came of it.
func (x *talk) hold() {
	were := goroutines()
	Stream(x.next, x.workers, x.give)
	goneHome(x.t, were)
	switch most := mostOut(x.workers); {
	case x.until == 0 && (x.asked != len(x.jobs)+1 || x.given != len(x.jobs)):
		x.t.Errorf("%d workers, %d jobs: asked %d, given %d", x.workers, len(x.jobs), x.asked, x.given)
	case x.until > 0 && x.given != x.until:
		x.t.Errorf("%d workers, until %d: given %d", x.workers, x.until, x.given)
	case x.askedBehind > most:
		x.t.Errorf("%d workers: asked %d times more", x.workers, x.askedBehind)
	}
}

func newTalk(t *testing.T, jobs []api.Job, want []Result, workers int) *talk {
	return &talk{t: t, jobs: jobs, want: want, workers: workers}
}

// P34.2: all jobs are asked for, up to the false, and all are given, in their order; no more are out than may be. P34.3: no goroutine is left.
func TestStream(t *testing.T) {
	for _, n := range []int{0, 1, 2, 3, 4, 5, 9, 150} {
		jobs := numbered(t, n)
		want := oneByOne(jobs)
		for workers := range numbersOfWorkers() {
			newTalk(t, jobs, want, workers).hold()
		}
	}
}

// P34.2: behind give's false nothing is given, next is hardly asked, and Stream is over, whether next has an end or not.
func TestGiveStops(t *testing.T) {
	jobs := numbered(t, 20)
	want := oneByOne(jobs)
	for workers := range numbersOfWorkers() {
		for _, until := range []int{1, 2, 3, 4, 5, 6, 7, 19, 20, 21, 200} {
			x := newTalk(t, jobs, want, workers)
			x.until, x.endless = until, true
			x.hold()
			if until <= len(jobs) {
				x := newTalk(t, jobs, want, workers)
				x.until = until
				x.hold()
			}
		}
	}
}

// 0.3: when next is asked and when is given does not hang on how the workers run.
func TestSameTurns(t *testing.T) {
	jobs := shortening(t, 40)
	want := oneByOne(jobs)
	for _, workers := range []int{1, 2, 7, 64} {
		said := ""
		for range 12 {
			x := newTalk(t, jobs, want, workers)
			x.hold()
			if said != "" && x.said != said {
				t.Errorf("%d workers: %s, then %s", workers, said, x.said)
			}
			said = x.said
		}
	}
}

// P34.2: a nil next has no jobs.
func TestNilNext(t *testing.T) {
	for workers := range numbersOfWorkers() {
		Stream(nil, workers, nil)
		Stream(nil, workers, func(Result) bool {
			t.Error("given")
			return true
		})
	}
}

// P34.2: a nil give is one that answers true: next is asked until it answers false, and is not asked for more ahead than else.
func TestNilGive(t *testing.T) {
	jobs := numbered(t, 150)
	for workers := range numbersOfWorkers() {
		asked := 0
		next := rowOf(jobs)
		Stream(func() (api.Job, bool) {
			asked++
			return next()
		}, workers, nil)
		if asked != len(jobs)+1 {
			t.Error(workers, asked)
		}
	}
}

// A job that comes with a false is none.
func TestJobBesideFalse(t *testing.T) {
	job := numbered(t, 3)[2]
	asked, given := 0, 0
	Stream(func() (api.Job, bool) {
		asked++
		return job, asked < 3
	}, 2, func(Result) bool {
		given++
		return true
	})
	if asked != 3 || given != 2 {
		t.Error(asked, given)
	}
}

// P34.2: workers are counted as All counts them, and there are as many.
func TestWorkersOfStream(t *testing.T) {
	jobs := numbered(t, 3)
	for workers, n := range numbersOfWorkers() {
		noneNow(t)
		look := func() {
			if now := workersNow(); now != n {
				t.Errorf("%d workers: %d", workers, now)
			}
		}
		next := rowOf(jobs)
		Stream(func() (api.Job, bool) {
			look()
			return next()
		}, workers, func(Result) bool {
			look()
			return true
		})
	}
}
