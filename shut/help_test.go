package shut

import (
	"math/rand/v2"
	"slices"
	"strconv"
	"strings"
	"testing"

	"conduit/api"
	"conduit/datum"
)

func newRandom(seed uint64) *rand.Rand { return rand.New(rand.NewPCG(seed, 22)) }

func pick[T any](r *rand.Rand, l ...T) T { return l[r.IntN(len(l))] }

func read(t testing.TB, s string) api.Datum {
	t.Helper()
	d, e := datum.Parse(s)
	if e != api.OK {
		t.Fatalf("datum.Parse(%s): %v", s, e)
	}
	return d
}

func failed(code int64) api.Result { return api.Result{Err: api.ErrHandler, Code: code} }

func panicked(kind int, num int64) api.Result {
	return api.Result{Err: api.ErrPanic, Panic: api.Panic{Kind: kind, Num: num}}
}

func gave(n int64) api.Result {
	return api.Result{Has: true, Body: api.Datum{Kind: api.KInt, Int: n}}
}

// mustGoAhead is the chapter's after[i]: which things must be closed ahead of i.
func mustGoAhead(after [][]int, i, k int) bool {
	return k != i && slices.Contains(after[i], k)
}

// chapterOrder is the chapter's order, word by word.
func chapterOrder(after [][]int) (c api.Closing) {
	closed := make([]bool, len(after))
	canBe := func(i int) bool {
		for k := range after {
			if mustGoAhead(after, i, k) && !closed[k] {
				return false
			}
		}
		return !closed[i]
	}
	for again := true; again; {
		again = false
		for i := range after {
			if canBe(i) {
				closed[i], again = true, true
				c.Order = append(c.Order, i)
				break
			}
		}
	}
	for i := range after {
		if !closed[i] {
			c.Cycle = append(c.Cycle, i)
		}
	}
	return c
}

// chapterClose is P22.2, from the order that it is given.
func chapterClose(c api.Closing, outcomes []api.Result) (l []api.Done, good bool) {
	good = true
	for _, i := range slices.Concat(c.Order, c.Cycle) {
		d := api.Done{Id: int64(i)}
		if i < len(outcomes) {
			d.Result = outcomes[i]
		}
		good = good && d.Result.Err == api.OK
		l = append(l, d)
	}
	return l, good
}

// chapterJoin is P22.3.
func chapterJoin(l []api.Done) (out []api.Done, none bool) {
	out = slices.DeleteFunc(slices.Clone(l), func(d api.Done) bool { return d.Result.Err == api.OK })
	return out, len(out) == 0
}

func sameOrder(x, y api.Closing) bool {
	return slices.Equal(x.Order, y.Order) && slices.Equal(x.Cycle, y.Cycle)
}

// sameValue looks at each field, of values that are none too.
func sameValue(a, b api.Datum) bool {
	return a.Kind == b.Kind && a.Int == b.Int && a.Bits == b.Bits && a.Text == b.Text && slices.EqualFunc(a.List, b.List, sameValue)
}

func sameResult(a, b api.Result) bool {
	return a.Err == b.Err && a.Code == b.Code && a.Panic == b.Panic && a.Has == b.Has && sameValue(a.Body, b.Body)
}

func sameDone(a, b api.Done) bool { return a.Id == b.Id && sameResult(a.Result, b.Result) }

func sameAll(a, b []api.Done) bool { return slices.EqualFunc(a, b, sameDone) }

func ids(l []api.Done) (out []int64) {
	for _, d := range l {
		out = append(out, d.Id)
	}
	return out
}

func show(l []api.Done) string {
	var b strings.Builder
	for _, d := range l[:min(len(l), 20)] {
		b.WriteString(strconv.FormatInt(d.Id, 10) + " error " + strconv.Itoa(int(d.Result.Err)) + " code " + strconv.FormatInt(d.Result.Code, 10))
		b.WriteString(" panic " + strconv.Itoa(d.Result.Panic.Kind) + " " + strconv.FormatInt(d.Result.Panic.Num, 10) + " " + datum.Print(d.Result.Body) + "; ")
	}
	return b.String()
}

// orderAsSaid holds what Order answers against the chapter.
func orderAsSaid(t testing.TB, after [][]int) api.Closing {
	t.Helper()
	got, want := Order(after), chapterOrder(after)
	if !sameOrder(got, want) {
		t.Fatalf("Order(%v): %v, not %v", after, got, want)
	}
	return got
}

// closeAsSaid holds what Close answers against the chapter.
func closeAsSaid(t testing.TB, after [][]int, outcomes []api.Result) ([]api.Done, bool) {
	t.Helper()
	got, good := Close(after, outcomes)
	if want, wantGood := chapterClose(chapterOrder(after), outcomes); !sameAll(got, want) || good != wantGood {
		t.Fatalf("Close(%v): %s, %t, not %s, %t", after, show(got), good, show(want), wantGood)
	}
	return got, good
}

// joinAsSaid holds what Join answers against the chapter.
func joinAsSaid(t testing.TB, l []api.Done) ([]api.Done, bool) {
	t.Helper()
	got, none := Join(l)
	if want, wantNone := chapterJoin(l); !sameAll(got, want) || none != wantNone {
		t.Fatalf("Join(%s): %s, %t, not %s, %t", show(l), show(got), none, show(want), wantNone)
	}
	return got, none
}

// badResults are results with errors, of each sort one at least.
func badResults() []api.Result {
	l := []api.Result{failed(0), failed(3), failed(-1), {Err: 1}, {Err: -1}, {Err: -1 << 63}, {Err: 1<<63 - 1}, panicked(0, 0), panicked(-1, 5)}
	for _, e := range []api.Errno{api.ErrTyped, api.ErrMethod, api.ErrLimit, api.ErrOpen, api.ErrLate, api.ErrClosed, api.ErrShown} {
		l = append(l, api.Result{Err: e})
	}
	for kind := 1; kind <= api.NumPanics; kind++ {
		l = append(l, panicked(kind, 0), panicked(kind, -3))
	}
	return l
}

func randomValue(r *rand.Rand, deep int) api.Datum {
	d := api.Datum{Kind: r.IntN(api.NumKinds), Int: int64(r.IntN(9)), Bits: r.Uint64(), Text: pick(r, "", "a", "bc")}
	if deep > 0 {
		for range r.IntN(4) {
			d.List = append(d.List, randomValue(r, deep-1))
		}
	}
	return d
}

// randomResult has a body, and often other fields, beside any error.
func randomResult(r *rand.Rand) api.Result {
	one := gave(int64(r.IntN(5)))
	switch r.IntN(3) {
	case 0:
		one = api.Result{}
	case 1:
		one = pick(r, badResults()...)
	}
	if r.IntN(3) == 0 {
		one.Has, one.Body = r.IntN(2) == 0, randomValue(r, 3)
	}
	if r.IntN(6) == 0 {
		one.Code, one.Panic = int64(r.IntN(5))-2, api.Panic{Kind: r.IntN(10) - 1, Num: int64(r.IntN(5))}
	}
	return one
}

// randomOutcomes are fewer or more than things, or as many.
func randomOutcomes(r *rand.Rand, things int) []api.Result {
	l := make([]api.Result, r.IntN(things+4))
	rarely := r.IntN(2) == 0
	for i := range l {
		if l[i] = randomResult(r); rarely && r.IntN(8) > 0 {
			l[i].Err = api.OK
		}
	}
	return l
}

// randomAfter has lists with numbers that are no things, too; often most of them come from below, so that not all wait for one another.
func randomAfter(r *rand.Rand, most int) [][]int {
	after := make([][]int, r.IntN(most+1))
	turned := r.Perm(len(after))
	wild := pick(r, 0, 0, 20, 5)
	for i := range after {
		for range r.IntN(pick(r, 1, 3, 5)) {
			k := r.IntN(len(after)+4) - 2
			if wild == 0 || r.IntN(wild) > 0 {
				k = turned[r.IntN(turned[i]+1)]
			}
			after[i] = append(after[i], k)
		}
	}
	return after
}

func randomDone(r *rand.Rand) []api.Done {
	l := make([]api.Done, r.IntN(12))
	for i := range l {
		l[i] = api.Done{Id: int64(r.Uint64() >> r.IntN(64)), Result: randomResult(r)}
	}
	return l
}
