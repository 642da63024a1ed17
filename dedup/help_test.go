package dedup

import (
	"math/rand/v2"
	"slices"
	"testing"

	"conduit/api"
)

// greatest is size's bound.
const greatest = 4096

func newRandom(seed uint64) *rand.Rand { return rand.New(rand.NewPCG(seed, 15)) }

func pick[T any](r *rand.Rand, l ...T) T { return l[r.IntN(len(l))] }

func of(ids ...int64) api.Dedup { return api.Dedup{Ids: ids} }

func same(x, y api.Dedup) bool { return slices.Equal(x.Ids, y.Ids) }

// fit is the chapter's word.
func fit(st api.Dedup, size int) bool {
	count := map[int64]int{}
	for _, id := range st.Ids {
		count[id]++
	}
	return len(st.Ids) <= size && len(count) == len(st.Ids)
}

// chapterKnows is P15.1.
func chapterKnows(st api.Dedup, id int64) bool { return slices.Contains(st.Ids, id) }

// chapterSeen is P15.2, in memory of its own.
func chapterSeen(st api.Dedup, size int, id int64) (api.Dedup, bool) {
	ids := append([]int64{}, st.Ids...)
	if chapterKnows(st, id) {
		return api.Dedup{Ids: ids}, true
	}
	if len(ids) == size {
		ids = slices.Delete(ids, 0, 1)
	}
	return api.Dedup{Ids: append(ids, id)}, false
}

// seenAsSaid holds what Seen answers against P15.2 and P15.3, and what Knows says of it against P15.1.
func seenAsSaid(t testing.TB, st api.Dedup, size int, id int64) (api.Dedup, bool) {
	t.Helper()
	got, known := Seen(st, size, id)
	want, wantKnown := chapterSeen(st, size, id)
	if !same(got, want) || known != wantKnown {
		t.Fatalf("Seen(%v, %d, %d): %v, %v, not %v, %v", st, size, id, got, known, want, wantKnown)
	}
	if !fit(got, size) || !Knows(got, id) {
		t.Fatalf("Seen(%v, %d, %d): %v is not fit, or does not know it", st, size, id, got)
	}
	return got, known
}

// knowsAsSaid holds what Knows answers against P15.1.
func knowsAsSaid(t testing.TB, st api.Dedup, id int64) bool {
	t.Helper()
	got := Knows(st, id)
	if got != chapterKnows(st, id) {
		t.Fatalf("Knows(%v, %d): %v", st, id, got)
	}
	return got
}

// sizes is sizes at which something may turn over.
func sizes() []int { return []int{1, 2, 3, 7, 255, 256, 4095, greatest} }

// numbers is ids at which something may turn over.
func numbers() []int64 {
	return []int64{0, 1, -1, 2, 255, 256, 1<<31 - 1, 1 << 31, -1 << 31, 1 << 32, 1<<53 + 1, 1<<63 - 1, -1 << 63}
}

func randomId(r *rand.Rand, far int64) int64 {
	return pick(r, r.Int64N(far), -r.Int64N(far), r.Int64N(far)<<32, int64(r.Uint64()), pick(r, numbers()...))
}

func randomSize(r *rand.Rand) int { return 1 + pick(r, r.IntN(4), r.IntN(30), 0) }

// randomState is fit with size, and is full half of the times.
func randomState(r *rand.Rand, size int) api.Dedup {
	var st api.Dedup
	for n := pick(r, size, r.IntN(size+1)); len(st.Ids) < n; {
		if id := randomId(r, 40); !slices.Contains(st.Ids, id) {
			st.Ids = append(st.Ids, id)
		}
	}
	return st
}

// randomAsked is a number that is often one of those known, the first and the last ones too.
func randomAsked(r *rand.Rand, st api.Dedup) int64 {
	if n := len(st.Ids); n > 0 && r.IntN(2) == 0 {
		return pick(r, st.Ids[0], st.Ids[n-1], st.Ids[r.IntN(n)])
	}
	return randomId(r, 40)
}

// upTo is the numbers 0 to n - 1.
func upTo(n int) (st api.Dedup) {
	for i := range int64(n) {
		st.Ids = append(st.Ids, i)
	}
	return st
}

// eachRow calls do with each row of so many numbers from 0 to below - 1.
func eachRow(long int, below int64, do func([]int64)) {
	row := make([]int64, long)
	for {
		do(row)
		i := 0
		for ; i < long; i++ {
			if row[i]++; row[i] < below {
				break
			}
			row[i] = 0
		}
		if i == long {
			return
		}
	}
}
