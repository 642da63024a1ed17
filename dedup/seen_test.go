package dedup

import (
	"slices"
	"testing"

	"conduit/api"
)

// P15.1: nothing is known where there is nothing; the first, the last and the one between are, and what is near them is not.
func TestKnowsTurns(t *testing.T) {
	for i, c := range []struct {
		st   api.Dedup
		id   int64
		want bool
	}{
		{of(), 0, false},
		{api.Dedup{Ids: []int64{}}, 0, false},
		{of(0), 0, true},
		{of(5), 0, false},
		{of(5, 6, 7), 5, true},
		{of(5, 6, 7), 6, true},
		{of(5, 6, 7), 7, true},
		{of(5, 6, 7), 4, false},
		{of(5, 6, 7), 8, false},
		{of(7, 5, 6), 5, true},
		{of(-1), 1, false},
		{of(1 << 32), 0, false},
		{of(1<<32 + 5), 5, false},
		{of(1<<53 + 1), 1 << 53, false},
		{of(-1 << 63), -1 << 63, true},
		{of(-1 << 63), 1<<63 - 1, false},
		{of(1<<63 - 1), 1<<63 - 1, true},
	} {
		if got := knowsAsSaid(t, c.st, c.id); got != c.want {
			t.Errorf("%d: %v", i, got)
		}
	}
}

// P15.1: each of as many as may be, and none beside them.
func TestKnowsGreat(t *testing.T) {
	for _, size := range sizes() {
		st := upTo(size)
		for id := int64(-2); id < int64(size)+2; id++ {
			if got := Knows(st, id); got != (id >= 0 && id < int64(size)) {
				t.Fatalf("%d known: of %d %v", size, id, got)
			}
		}
	}
}

// P15.1: any numbers.
func TestKnowsRandom(t *testing.T) {
	r := newRandom(1)
	known, not := 0, 0
	for range 100000 {
		st := randomState(r, randomSize(r))
		if knowsAsSaid(t, st, randomAsked(r, st)) {
			known++
		} else {
			not++
		}
	}
	if known < 1000 || not < 1000 {
		t.Errorf("%d that were known, %d that were not", known, not)
	}
}

// P15.2: what is known stays where it stands, first or last, in a full list too; what is not goes behind, and the first one goes just where there were size.
func TestSeenTurns(t *testing.T) {
	for i, c := range []struct {
		st    api.Dedup
		size  int
		id    int64
		want  api.Dedup
		known bool
	}{
		{of(), 1, 0, of(0), false},
		{of(), greatest, 9, of(9), false},
		{of(9), 1, 9, of(9), true},
		{of(9), 1, 8, of(8), false},
		{of(9), 2, 8, of(9, 8), false},
		{of(9, 8), 2, 9, of(9, 8), true},
		{of(9, 8), 2, 8, of(9, 8), true},
		{of(9, 8), 2, 7, of(8, 7), false},
		{of(9, 8), 3, 7, of(9, 8, 7), false},
		{of(9, 8, 7), 3, 9, of(9, 8, 7), true},
		{of(9, 8, 7), 3, 6, of(8, 7, 6), false},
		{of(7, 9, 8), 3, 6, of(9, 8, 6), false},
		{of(1, 2), 2, -1, of(2, -1), false},
		{of(-1<<63, 1<<63-1), 2, 0, of(1<<63-1, 0), false},
		{of(-1<<63, 1<<63-1), 2, -1 << 63, of(-1<<63, 1<<63-1), true},
	} {
		if got, known := seenAsSaid(t, c.st, c.size, c.id); !same(got, c.want) || known != c.known {
			t.Errorf("%d: %v, %v", i, got, known)
		}
	}
}

// P15.2: small states, all of them, and all small numbers.
func TestSeenSmall(t *testing.T) {
	for long := range 5 {
		eachRow(long, 5, func(row []int64) {
			if !fit(of(row...), long) {
				return
			}
			for size := max(long, 1); size <= long+2; size++ {
				for id := range int64(6) {
					seenAsSaid(t, of(row...), size, id)
				}
			}
		})
	}
}

// P15.2: at a size, one short of it, and one past it.
func TestSeenEdges(t *testing.T) {
	for _, size := range sizes() {
		for _, long := range []int{size - 1, size, max(size-2, 0)} {
			st := upTo(long)
			for _, id := range []int64{0, int64(long) / 2, int64(long) - 1, int64(long), -1} {
				seenAsSaid(t, st, size, id)
			}
		}
	}
	got, _ := Seen(upTo(greatest), greatest, -1)
	if len(got.Ids) != greatest || got.Ids[0] != 1 || got.Ids[greatest-1] != -1 {
		t.Error(len(got.Ids), got.Ids[:2])
	}
}

// P15.2: any numbers.
func TestSeenRandom(t *testing.T) {
	r := newRandom(2)
	known, went := 0, 0
	for range 100000 {
		size := randomSize(r)
		st := randomState(r, size)
		_, is := seenAsSaid(t, st, size, randomAsked(r, st))
		if is {
			known++
		} else if len(st.Ids) == size {
			went++
		}
	}
	if known < 1000 || went < 1000 {
		t.Errorf("%d that were known, %d behind which the first one went", known, went)
	}
}

// P15.2: one number after the other, over as many as may be known.
func TestSeenGreatRow(t *testing.T) {
	var st api.Dedup
	for i := range int64(greatest + 50) {
		var known bool
		if st, known = Seen(st, greatest, i); known {
			t.Fatalf("%d is told as known", i)
		}
	}
	if !same(st, api.Dedup{Ids: upTo(greatest + 50).Ids[50:]}) {
		t.Error("others are known than the last ones")
	}
	for _, id := range []int64{49, 50, greatest + 49, greatest + 50} {
		if got := Knows(st, id); got != slices.Contains([]int64{50, greatest + 49}, id) {
			t.Errorf("of %d: %v", id, got)
		}
	}
}
