package limit

import (
	"math/big"
	"math/rand/v2"
	"testing"

	"conduit/api"
)

// greatest is a's and b's bound.
const greatest = 1000000

func newRandom(seed uint64) *rand.Rand { return rand.New(rand.NewPCG(seed, 13)) }

func pick[T any](r *rand.Rand, l ...T) T { return l[r.IntN(len(l))] }

// fit is the chapter's word.
func fit(st api.Limit, a, b int64) bool {
	return st.Level >= 0 && st.Level <= a*b && st.Last >= 0 && st.Last <= api.MaxTick
}

// chapterAsOf is the chapter's "as of now", in true numbers.
func chapterAsOf(st api.Limit, a, b, now int64) api.Limit {
	if now <= st.Last {
		return st
	}
	level := new(big.Int).Sub(big.NewInt(now), big.NewInt(st.Last))
	level.Mul(level, big.NewInt(a))
	level.Add(level, big.NewInt(st.Level))
	full := new(big.Int).Mul(big.NewInt(a), big.NewInt(b))
	if level.Cmp(full) > 0 {
		level = full
	}
	return api.Limit{Level: level.Int64(), Last: now}
}

// walkedAsOf is the same, tick by tick.
func walkedAsOf(st api.Limit, a, b, now int64) api.Limit {
	for st.Last < now {
		st.Last++
		for range a {
			if st.Level < a*b {
				st.Level++
			}
		}
	}
	return st
}

// takenOf is what P13.2 makes of a state that is as of now.
func takenOf(st api.Limit, b int64) (api.Limit, bool) {
	if st.Level >= b {
		return api.Limit{Level: st.Level - b, Last: st.Last}, true
	}
	return st, false
}

// takeAsSaid holds what Take answers against the chapter.
func takeAsSaid(t testing.TB, st api.Limit, a, b, now int64) (api.Limit, bool) {
	t.Helper()
	got, ok := Take(st, a, b, now)
	want, wantOk := takenOf(chapterAsOf(st, a, b, now), b)
	if got != want || ok != wantOk {
		t.Fatalf("Take(%v, %d, %d, %d): %v, %v, not %v, %v", st, a, b, now, got, ok, want, wantOk)
	}
	if !fit(got, a, b) {
		t.Fatalf("Take(%v, %d, %d, %d): %v is not fit", st, a, b, now, got)
	}
	return got, ok
}

// waitAsSaid holds what Wait answers against P13.3: a token is there behind so many ticks, and not one tick ahead of them (nor at any other, as parts only come).
func waitAsSaid(t testing.TB, st api.Limit, a, b, now int64) int64 {
	t.Helper()
	got := Wait(st, a, b, now)
	last := max(st.Last, now)
	if got < 0 {
		t.Fatalf("Wait(%v, %d, %d, %d): %d", st, a, b, now, got)
	}
	if _, ok := takenOf(chapterAsOf(st, a, b, last+got), b); !ok {
		t.Fatalf("Wait(%v, %d, %d, %d): %d, when there is none", st, a, b, now, got)
	}
	if got == 0 {
		return got
	}
	if _, ok := takenOf(chapterAsOf(st, a, b, last+got-1), b); ok {
		t.Fatalf("Wait(%v, %d, %d, %d): %d, when there was one ahead of it", st, a, b, now, got)
	}
	return got
}

// sizes is a's and b's at which something may turn over.
func sizes() []int64 {
	return []int64{1, 2, 3, 7, 10, 1000, 65536, 999983, greatest - 1, greatest}
}

// ticks is ticks at which something may turn over.
func ticks() []int64 {
	return []int64{0, 1, 2, 9, 10, 999999, greatest, greatest + 1, 1<<31 - 1, 1 << 32, api.MaxTick / 2, api.MaxTick - greatest, api.MaxTick - 1, api.MaxTick}
}

// levels is levels of a bucket at which something may turn over.
func levels(a, b int64) []int64 {
	l := []int64{0, 1, b - 1, b, a*b - b, a*b - 1, a * b}
	for _, n := range []int64{b + 1, b - a, a*b - a} {
		l = append(l, min(max(n, 0), a*b))
	}
	return l
}

func randomSize(r *rand.Rand) int64 {
	return 1 + pick(r, r.Int64N(6), r.Int64N(1000), r.Int64N(greatest), greatest-1)
}

func randomTick(r *rand.Rand) int64 {
	return pick(r, r.Int64N(20), r.Int64N(2*greatest), r.Int64N(api.MaxTick+1), api.MaxTick-r.Int64N(20))
}

func randomState(r *rand.Rand, a, b int64) api.Limit {
	return api.Limit{Level: pick(r, r.Int64N(a*b+1), r.Int64N(b+1), pick(r, levels(a, b)...)), Last: randomTick(r)}
}

// randomNow is a tick that is often near a state's own.
func randomNow(r *rand.Rand, last int64) int64 {
	near := last + pick(r, r.Int64N(8)-3, r.Int64N(2*greatest)-greatest)
	return pick(r, min(max(near, 0), api.MaxTick), randomTick(r))
}
