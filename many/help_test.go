package many

import (
	"math"
	"math/rand/v2"
	"reflect"
	"runtime"
	"slices"
	"strconv"
	"strings"
	"testing"
	"time"

	"conduit/api"
	"conduit/bus"
	"conduit/check"
	"conduit/datum"
)

func newRandom(seed uint64) *rand.Rand { return rand.New(rand.NewPCG(seed, 34)) }

func pick[T any](r *rand.Rand, l ...T) T { return l[r.IntN(len(l))] }

func plan(t testing.TB, config string) api.Plan {
	t.Helper()
	p, f := check.Load([]byte(config))
	if f.Err != api.OK {
		t.Fatalf("%s: %v", config, f)
	}
	return p
}

func read(t testing.TB, s string) api.Datum {
	t.Helper()
	d, e := datum.Parse(s)
	if e != api.OK {
		t.Fatalf("%.100s is no value", s)
	}
	return d
}

// publishing is a step that publishes a number.
func publishing(topic string, n int64) api.Step {
	return api.Step{Kind: api.StPublish, Msg: api.Msg{Topic: topic, Body: api.Datum{Kind: api.KInt, Int: n}}}
}

func working(n int64) api.Step { return api.Step{Kind: api.StWork, N: n} }

// numbered is jobs over one plan, whose results tell which they are.
func numbered(t testing.TB, n int) []api.Job {
	t.Helper()
	l := make([]api.Job, n)
	p := plan(t, `handler a = echo; route "x" -> a;`)
	for k := range l {
		l[k] = api.Job{Plan: p, Steps: []api.Step{publishing("x", int64(k)), working(1)}}
	}
	return l
}

// shortening is jobs over one plan, of which the first one has so many messages, and each other one fewer than the one ahead.
func shortening(t testing.TB, n int) []api.Job {
	t.Helper()
	l := make([]api.Job, n)
	p := plan(t, `handler a = count inbox 1024; route "x" -> a;`)
	for k := range l {
		l[k].Plan = p
		for range n - k {
			l[k].Steps = append(l[k].Steps, publishing("x", 5))
		}
		l[k].Steps = append(l[k].Steps, working(api.MaxWork))
	}
	return l
}

// oneByOne is what bus.Run answers of each job.
func oneByOne(jobs []api.Job) []Result {
	l := make([]Result, len(jobs))
	for i, j := range jobs {
		l[i].Bus, l[i].Events = bus.Run(j.Plan, j.Steps)
	}
	return l
}

func same(a, b Result) bool { return reflect.DeepEqual(a, b) }

func sameAll(a, b []Result) bool { return slices.EqualFunc(a, b, same) }

// numbersOfWorkers is numbers that may stand for workers, each with how many it stands for.
func numbersOfWorkers() map[int]int {
	return map[int]int{math.MinInt: 1, -7: 1, -1: 1, 0: 1, 1: 1, 2: 2, 3: 3, 8: 8, 63: 63, 64: 64, 65: 64, 1000: 64, math.MaxInt: 64}
}

// mostOut is how many jobs may be out.
func mostOut(workers int) int { return 2*min(max(workers, 1), 64) + 2 }

// rowOf is a next that has these jobs.
func rowOf(jobs []api.Job) func() (api.Job, bool) {
	at := -1
	return func() (api.Job, bool) {
		if at++; at >= len(jobs) {
			return api.Job{}, false
		}
		return jobs[at], true
	}
}

// streamed is what Stream gives of jobs.
func streamed(jobs []api.Job, workers int) (l []Result) {
	Stream(rowOf(jobs), workers, func(r Result) bool {
		l = append(l, r)
		return true
	})
	return l
}

// stacks is the stacks of all goroutines. (The runtime's own number of them is not exact while some begin or end.)
func stacks() string {
	b := make([]byte, 1<<20)
	for {
		if n := runtime.Stack(b, true); n < len(b) {
			return string(b[:n])
		}
		b = make([]byte, 2*len(b))
	}
}

// goroutines is how many there are.
func goroutines() int { return strings.Count(stacks(), "\n\ngoroutine ") }

// workersNow is how many of them are workers.
func workersNow() int { return strings.Count(stacks(), "created by conduit/many.newCrew") }

// noneNow waits until there are no workers: one that has said that it is done may still be about to end.
func noneNow(t testing.TB) {
	t.Helper()
	for range 5000 {
		if workersNow() == 0 {
			return
		}
		time.Sleep(time.Millisecond)
	}
	t.Error("workers are left")
}

// goneHome waits until there are no more goroutines than there were, likewise.
func goneHome(t testing.TB, were int) {
	t.Helper()
	for range 5000 {
		if goroutines() <= were {
			return
		}
		time.Sleep(time.Millisecond)
	}
	t.Errorf("%d goroutines, %d ahead", goroutines(), were)
}

var (
	someHandlers = []string{
		"echo", "count", "echo caps flush, close", "count caps save, load, close", "store 2", "sum with retry 2", "size", "unbox", "fail -3", "panic", "nth 0", "none", "mute caps close, ping", "less caps until",
		"echo with buffer 2 0", "count with buffer 2 3", "echo with limit 1 3", "fail 2 with breaker 2 4", "echo with filter when int", "echo with map:pair", "echo with dedup 2", "echo with until 3",
	}
	someFilters = []string{"x", "x", "y", "r", "r", "#", "x/+"}
	someTopics  = []string{"x", "x", "x", "r", "y", "x/1", "$s"}
	someValues  = []string{"5", "1", "-7", "300", `"t"`, "nil", "[1, 2]", "[[3], 4]", `(1, "x")`, "&1(5)", "&nil", "true", "f7ff8000000000001", `!3"e"`, "%00ff", "{}"}
)

// randomPlan has handlers that pass messages to one another by their answers, and rooms that are soon full.
func randomPlan(t testing.TB, r *rand.Rand) api.Plan {
	t.Helper()
	var b strings.Builder
	n := r.IntN(4)
	for h := range n {
		b.WriteString("handler h" + strconv.Itoa(h) + " = " + pick(r, someHandlers...) + pick(r, "", "", " inbox 1 drop old", " inbox 2 drop none", " inbox 1") + ";")
	}
	for range 2 * n {
		b.WriteString("route \"" + pick(r, someFilters...) + "\"" + pick(r, "", "", "", " when int", " else") + " -> h" + strconv.Itoa(r.IntN(n)) + ";")
	}
	return plan(t, b.String())
}

// randomStep is fit.
func randomStep(t testing.TB, r *rand.Rand) api.Step {
	t.Helper()
	s := api.Step{Kind: pick(r, api.StPublish, api.StPublish, api.StPublish, api.StAsk, api.StWork, api.StWork, api.StTick, api.StCall)}
	if r.IntN(50) == 0 {
		s.Kind = api.StClose
	}
	switch s.Kind {
	case api.StPublish, api.StAsk:
		s.Msg = api.Msg{Topic: pick(r, someTopics...), Body: read(t, pick(r, someValues...)), Reply: pick(r, "r", "x"), Until: pick(r, 0, 0, r.Int64N(9)), Corr: pick(r, 0, 0, r.Int64N(4)), Prio: r.IntN(3)}
	case api.StCall:
		s.Handler, s.Cap, s.Arg, s.Deep = r.IntN(4), r.IntN(api.NumCaps), read(t, pick(r, someValues...)), r.IntN(2) == 0
	}
	s.N = pick(r, 1, 3, r.Int64N(9))
	if !bus.Step(s) {
		t.Fatalf("%v is not fit", s)
	}
	return s
}

// randomJobs is jobs of which some have one plan, and some one row of steps; some take long and some are done at once.
func randomJobs(t testing.TB, r *rand.Rand, n int) []api.Job {
	t.Helper()
	l := make([]api.Job, n)
	for i := range l {
		l[i].Plan = randomPlan(t, r)
		for range pick(r, 0, 1, r.IntN(20), r.IntN(20), 150) {
			l[i].Steps = append(l[i].Steps, randomStep(t, r))
		}
		if i > 0 && r.IntN(3) == 0 {
			l[i].Plan = l[r.IntN(i)].Plan
		}
		if i > 0 && r.IntN(5) == 0 {
			l[i].Steps = l[r.IntN(i)].Steps
		}
	}
	return l
}
