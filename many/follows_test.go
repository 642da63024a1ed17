package many

import (
	"testing"

	"conduit/check"
)

// P34.4: All and Stream with any number of workers tell what bus.Run answers, one by one, of random plans and steps.
func TestTheSame(t *testing.T) {
	r := newRandom(1)
	for range 25 {
		jobs := randomJobs(t, r, r.IntN(40))
		want := oneByOne(jobs)
		for workers := range numbersOfWorkers() {
			for _, got := range [][]Result{All(jobs, workers), streamed(jobs, workers)} {
				if sameAll(got, want) {
					continue
				}
				for i, j := range jobs {
					if i >= len(got) || !same(got[i], want[i]) {
						t.Fatalf("%d workers, at %d: %s%.1000v", workers, i, check.Write(j.Plan), j.Steps)
					}
				}
				t.Fatalf("%d workers: %d results of %d jobs", workers, len(got), len(jobs))
			}
		}
	}
}

// P34.4: All of two rows of jobs, one behind the other, is what All tells of each.
func TestInPieces(t *testing.T) {
	r := newRandom(2)
	for range 60 {
		jobs := randomJobs(t, r, 1+r.IntN(30))
		cut := r.IntN(len(jobs))
		first, rest := All(jobs[:cut], 3), All(jobs[cut:], 2)
		if !sameAll(append(first, rest...), All(jobs, 5)) {
			t.Fatalf("cut at %d", cut)
		}
	}
}

// FuzzJobs looks for jobs of which something else comes by workers than one by one.
func FuzzJobs(f *testing.F) {
	for seed := range uint64(20) {
		f.Add(seed, uint8(seed*5), int(seed)-3)
	}
	f.Fuzz(func(t *testing.T, seed uint64, n uint8, workers int) {
		jobs := randomJobs(t, newRandom(seed), int(n))
		want := oneByOne(jobs)
		if !sameAll(All(jobs, workers), want) || !sameAll(streamed(jobs, workers), want) {
			t.Fatalf("%d workers", workers)
		}
	})
}
