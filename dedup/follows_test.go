package dedup

import (
	"math/rand/v2"
	"slices"
	"testing"

	"conduit/api"
)

// toldOf is what Seen tells of each number of a row, from none known on.
func toldOf(t *testing.T, size int, row []int64) (out []bool) {
	t.Helper()
	var st api.Dedup
	for _, id := range row {
		var known bool
		st, known = seenAsSaid(t, st, size, id)
		out = append(out, known)
	}
	return out
}

// asTheLast holds a row against P15.4: all that were told as not known are written down, and the last size of them looked at.
func asTheLast(t *testing.T, size int, row []int64) (known int) {
	t.Helper()
	var new []int64
	for i, is := range toldOf(t, size, row) {
		last := new[max(len(new)-size, 0):]
		if is != slices.Contains(last, row[i]) {
			t.Fatalf("size %d, %v: of the one at %d %v, behind %v", size, row, i, is, last)
		}
		if is {
			known++
		} else {
			new = append(new, row[i])
		}
	}
	return known
}

// soonAgain holds a row against P15.5: where a number comes again before size unlike ones have been told as not known since, it is known.
func soonAgain(t *testing.T, size int, row []int64) (again int) {
	t.Helper()
	told := toldOf(t, size, row)
	for i, id := range row {
		var between []int64
		if told[i] {
			continue
		}
		for j := i + 1; j < len(row) && len(between) < size; j++ {
			if row[j] == id {
				again++
				if !told[j] {
					t.Fatalf("size %d, %v: the one at %d comes again at %d, as if not known", size, row, i, j)
				}
			}
			if !told[j] && !slices.Contains(between, row[j]) {
				between = append(between, row[j])
			}
		}
	}
	return again
}

// P15.4, P15.5: small rows, all of them.
func TestRowsSmall(t *testing.T) {
	for size := 1; size < 5; size++ {
		for long := range 7 {
			eachRow(long, 4, func(row []int64) {
				asTheLast(t, size, row)
				soonAgain(t, size, row)
			})
		}
	}
}

// randomRow is numbers of which many come again, some of them near.
func randomRow(r *rand.Rand, size int) (row []int64) {
	below := 1 + r.Int64N(2*int64(size)+2)
	for range r.IntN(80) {
		if n := len(row); n > 0 && r.IntN(3) == 0 {
			row = append(row, row[n-1-r.IntN(min(n, size+2))])
		} else {
			row = append(row, r.Int64N(below)-below/2)
		}
	}
	return row
}

// P15.4, P15.5: any rows.
func TestRowsRandom(t *testing.T) {
	r := newRandom(3)
	known, again := 0, 0
	for range 5000 {
		size := randomSize(r)
		row := randomRow(r, size)
		known += asTheLast(t, size, row)
		again += soonAgain(t, size, row)
	}
	if known < 1000 || again < 1000 {
		t.Errorf("%d told as known, %d that came again soon", known, again)
	}
}

// P15.4: one that is told as known is no nearer for it: it goes when it would have gone.
func TestKnownIsNotMovedBack(t *testing.T) {
	for size := 2; size < 8; size++ {
		st := upTo(size)
		for range 3 {
			st, _ = Seen(st, size, 0)
		}
		if st, _ = Seen(st, size, 100); Knows(st, 0) || !Knows(st, 1) {
			t.Errorf("size %d: %v", size, st)
		}
	}
}

// P15.5: at the bound: behind size - 1 unlike ones it is known, behind size it is not.
func TestAgainAtTheBound(t *testing.T) {
	for _, size := range sizes() {
		for unlike := max(size-2, 0); unlike <= size+1; unlike++ {
			st, _ := Seen(api.Dedup{}, size, -5)
			for i := range int64(unlike) {
				st, _ = Seen(st, size, i)
				st, _ = Seen(st, size, i)
			}
			if _, known := Seen(st, size, -5); known != (unlike < size) {
				t.Fatalf("size %d, behind %d others: %v", size, unlike, known)
			}
		}
	}
}

// P15.3: what comes out is fit, along any row of calls, and knows what was asked last.
func TestFit(t *testing.T) {
	r := newRandom(4)
	for range 3000 {
		size := randomSize(r)
		st := randomState(r, size)
		for range 40 {
			id := randomAsked(r, st)
			if st, _ = Seen(st, size, id); !fit(st, size) || !Knows(st, id) {
				t.Fatalf("size %d: %v behind %d", size, st, id)
			}
		}
	}
}
