package retry

import (
	"math/big"
	"math/rand/v2"
	"slices"
	"strconv"
	"sync"
	"testing"

	"conduit/api"
	"conduit/datum"
)

func newRandom(seed uint64) *rand.Rand { return rand.New(rand.NewPCG(seed, 12)) }

func pick[T any](r *rand.Rand, l ...T) T { return l[r.IntN(len(l))] }

func failed(code int64) api.Result { return api.Result{Err: api.ErrHandler, Code: code} }

func panicked(kind int, num int64) api.Result {
	return api.Result{Err: api.ErrPanic, Panic: api.Panic{Kind: kind, Num: num}}
}

func gave(n int64) api.Result {
	return api.Result{Has: true, Body: api.Datum{Kind: api.KInt, Int: n}}
}

func show(r api.Result) string {
	s := "error " + strconv.Itoa(int(r.Err)) + " code " + strconv.FormatInt(r.Code, 10)
	s += " panic " + strconv.Itoa(r.Panic.Kind) + " " + strconv.FormatInt(r.Panic.Num, 10)
	if r.Has {
		s += " has"
	}
	return s + " " + datum.Print(r.Body)
}

func sameResult(a, b api.Result) bool {
	return a.Err == b.Err && a.Code == b.Code && a.Panic == b.Panic && a.Has == b.Has && sameValue(a.Body, b.Body)
}

// sameValue looks at each field, of values that are none too.
func sameValue(a, b api.Datum) bool {
	return a.Kind == b.Kind && a.Int == b.Int && a.Bits == b.Bits && a.Text == b.Text && slices.EqualFunc(a.List, b.List, sameValue)
}

var (
	askingErrors = []api.Errno{api.ErrTyped, api.ErrLimit, api.ErrOpen}
	askingPanics = []int{api.PanOwn, api.PanNil, api.PanIndex, api.PanDivide, api.PanError}
)

// chapterAgain is the chapter's "worth another try".
func chapterAgain(r api.Result) bool {
	handler := r.Err == api.ErrHandler && r.Code >= 0
	panics := r.Err == api.ErrPanic && slices.Contains(askingPanics, r.Panic.Kind)
	return handler || panics || slices.Contains(askingErrors, r.Err)
}

// chapterRun is P12.2, from the last try that may be made backwards.
func chapterRun(tries int64, l []api.Result) (api.Result, int) {
	if len(l) == 0 {
		return api.Result{}, 0
	}
	made := len(l)
	if tries < int64(made) {
		made = max(int(tries), 1)
	}
	for n := made - 1; n > 0; n-- {
		if !chapterAgain(l[n-1]) {
			made = n
		}
	}
	return l[made-1], made
}

// chapterWait is P12.3, in true numbers.
func chapterWait(k, base, most int64) int64 {
	b, m := big.NewInt(base), big.NewInt(most)
	for _, n := range []*big.Int{b, m} {
		if n.Sign() < 0 {
			n.SetInt64(0)
		}
	}
	// From 2^63 on, whatever is not 0 is above every most.
	for range min(k, 63) {
		b.Add(b, b)
	}
	if b.Cmp(m) > 0 {
		return m.Int64()
	}
	return b.Int64()
}

// runAsSaid holds what Run answers against the chapter.
func runAsSaid(t testing.TB, tries int64, l []api.Result) (api.Result, int) {
	t.Helper()
	got, made := Run(tries, l)
	want, wantMade := chapterRun(tries, l)
	if !sameResult(got, want) || made != wantMade {
		t.Fatalf("%d tries of %d: %s, %d, not %s, %d", tries, len(l), show(got), made, show(want), wantMade)
	}
	return got, made
}

// waitAsSaid holds what Wait answers against the chapter.
func waitAsSaid(t testing.TB, k, base, most int64) int64 {
	t.Helper()
	got, want := Wait(k, base, most), chapterWait(k, base, most)
	if got != want {
		t.Fatalf("Wait(%d, %d, %d): %d, not %d", k, base, most, got, want)
	}
	return got
}

// asking are results that are worth another try, one of each sort.
var asking = sync.OnceValue(func() []api.Result {
	l := []api.Result{failed(0), failed(1), failed(1<<63 - 1)}
	for _, e := range askingErrors {
		l = append(l, api.Result{Err: e})
	}
	for _, kind := range askingPanics {
		l = append(l, panicked(kind, 0), panicked(kind, -3))
	}
	return l
})

// ending are results that are not.
var ending = sync.OnceValue(func() []api.Result {
	l := []api.Result{{}, gave(5), failed(-1), failed(-1 << 63), panicked(api.PanAssert, api.KText), panicked(api.PanCompare, 0), panicked(0, 0), panicked(api.NumPanics, 0), panicked(-1, 0)}
	for _, e := range []api.Errno{api.ErrMethod, api.ErrAgain, api.ErrLate, api.ErrRefuse, api.ErrFull, api.ErrClosed, api.ErrShown, api.ErrAssert, 1, 99, -100} {
		l = append(l, api.Result{Err: e})
	}
	return l
})

func randomValue(r *rand.Rand, deep int) api.Datum {
	d := api.Datum{Kind: r.IntN(api.NumKinds), Int: int64(r.IntN(9)), Bits: r.Uint64(), Text: pick(r, "", "a", "bc")}
	if deep > 0 {
		for range r.IntN(4) {
			d.List = append(d.List, randomValue(r, deep-1))
		}
	}
	return d
}

// randomResult has a body, and often other fields, beside any error.
func randomResult(r *rand.Rand) api.Result {
	one := pick(r, asking()...)
	if r.IntN(4) == 0 {
		one = pick(r, ending()...)
	}
	if r.IntN(3) == 0 {
		one.Has, one.Body = r.IntN(2) == 0, randomValue(r, 3)
	}
	if r.IntN(6) == 0 {
		one.Code, one.Panic = int64(r.IntN(5))-2, api.Panic{Kind: r.IntN(10) - 1, Num: int64(r.IntN(5))}
	}
	return one
}

func randomRow(r *rand.Rand) []api.Result {
	l := make([]api.Result, r.IntN(12))
	for i := range l {
		l[i] = randomResult(r)
	}
	return l
}

func randomTries(r *rand.Rand) int64 {
	return pick(r, int64(r.IntN(15))-2, int64(r.Uint64()), 1<<32+1, 1<<63-1, -1<<63)
}

// randomNumber is of any length, from one bit to all.
func randomNumber(r *rand.Rand) int64 { return int64(r.Uint64() >> r.IntN(64)) }
