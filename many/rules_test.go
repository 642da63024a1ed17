package many

import (
	"reflect"
	"slices"
	"testing"

	"conduit/api"
)

// span is where a list lies, spare room too.
type span struct {
	begin, end uintptr
	all        reflect.Value
}

// spans is all lists in a value.
func spans(v reflect.Value) (l []span) {
	switch v.Kind() {
	case reflect.Struct:
		for i := range v.NumField() {
			l = append(l, spans(v.Field(i))...)
		}
	case reflect.Slice:
		if v.Cap() > 0 {
			begin := v.Pointer()
			l = append(l, span{begin, begin + uintptr(v.Cap())*v.Type().Elem().Size(), v.Slice(0, v.Cap())})
		}
		for i := range v.Len() {
			l = append(l, spans(v.Index(i))...)
		}
	}
	return l
}

func spansOf(x any) []span { return spans(reflect.ValueOf(x)) }

// spoil writes over lists, spare room too.
func spoil(l []span) {
	for _, s := range l {
		for i := range s.all.Len() {
			s.all.Index(i).SetZero()
		}
	}
}

// apart tells whether no two of these lists share memory, nor one of them and one of the others (which may share some).
func apart(l, others []span) bool {
	byBegin := func(a, b span) int { return int(a.begin) - int(b.begin) }
	slices.SortFunc(l, byBegin)
	for i := range len(l) - 1 {
		if l[i].end > l[i+1].begin {
			return false
		}
	}
	for _, s := range others {
		if slices.ContainsFunc(l, func(x span) bool { return s.begin < x.end && x.begin < s.end }) {
			return false
		}
	}
	return true
}

// roomy is jobs with spare room behind their lists, where other things stand.
func roomy(jobs []api.Job) []api.Job {
	out := make([]api.Job, 0, len(jobs)+2)
	for _, j := range jobs {
		n, k := len(j.Steps), len(j.Plan.Handlers)
		j.Steps = slices.Concat(j.Steps, []api.Step{publishing("x", 77), working(9)})[:n]
		j.Plan.Handlers = slices.Concat(j.Plan.Handlers, []api.Named{{Name: "spare", Inbox: 7}})[:k]
		out = append(out, j)
	}
	return append(out, api.Job{Steps: []api.Step{working(3)}}, api.Job{})[:len(jobs)]
}

// whole is jobs with what stands in their spare room.
func whole(jobs []api.Job) []api.Job {
	l := slices.Clone(jobs[:cap(jobs)])
	for i := range l {
		l[i].Steps, l[i].Plan.Handlers = l[i].Steps[:cap(l[i].Steps)], l[i].Plan.Handlers[:cap(l[i].Plan.Handlers)]
	}
	return l
}

// 0.4, 0.8: jobs that are handed in stay as they are, their spare room too, which plays no part; what is answered is new memory, of which no two lists share any, though jobs do; it does not hang on what becomes of the jobs.
func TestMemory(t *testing.T) {
	answers := map[string]func(jobs []api.Job) []Result{
		"All":    func(jobs []api.Job) []Result { return All(jobs, 4) },
		"Stream": func(jobs []api.Job) []Result { return streamed(jobs, 4) },
	}
	for name, call := range answers {
		r, again := newRandom(3), newRandom(3)
		for range 60 {
			n := r.IntN(12)
			again.IntN(12)
			made, twin := roomy(randomJobs(t, r, n)), roomy(randomJobs(t, again, n))
			want := oneByOne(twin)
			got := call(made)
			if !reflect.DeepEqual(whole(made), whole(twin)) {
				t.Fatal(name, "jobs have changed")
			}
			lists := spansOf(got)
			if name == "Stream" { // its list is the test's own
				lists = nil
				for _, x := range got {
					lists = append(lists, spansOf(x)...)
				}
			}
			if !apart(lists, spansOf(made)) {
				t.Fatal(name, "lists share memory")
			}
			spoil(spansOf(made))
			if !sameAll(got, want) {
				t.Fatal(name, "what was answered changed with the jobs")
			}
			spoil(spansOf(got))
			if !sameAll(call(twin), want) {
				t.Fatal(name, "another answer")
			}
		}
	}
}

// P34.3: a result is whoever's it was given to: what he does with it changes no other one.
func TestGivenAway(t *testing.T) {
	job := numbered(t, 6)[5]
	want := oneByOne([]api.Job{job})[0]
	given := 0
	Stream(func() (api.Job, bool) { return job, true }, 3, func(r Result) bool {
		if !same(r, want) {
			t.Error(given, r)
		}
		spoil(spansOf(r))
		given++
		return given < 50
	})
}
