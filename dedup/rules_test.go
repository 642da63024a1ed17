package dedup

import (
	"encoding/binary"
	"math"
	"slices"
	"testing"

	"conduit/api"
)

// Every call ends and none panics, at states and sizes of which nothing else is promised too.
func TestAnyNumbers(t *testing.T) {
	for _, size := range []int{math.MinInt, math.MinInt + 1, -1, 0, 1, 2, greatest + 1, math.MaxInt} {
		for _, st := range []api.Dedup{of(), {Ids: []int64{}}, of(1), of(1, 1), of(1, 2, 3), upTo(greatest + 5)} {
			for _, id := range numbers() {
				Knows(st, id)
				Seen(st, size, id)
			}
		}
	}
}

// roomy is a state in memory with spare room behind, where numbers stand that are not known.
func roomy(st api.Dedup, spare ...int64) api.Dedup {
	return api.Dedup{Ids: slices.Concat(st.Ids, spare)[:len(st.Ids)]}
}

// 0.3, 0.4, 0.8: what is handed in stays as it is, spare room too, plays no part behind its end, and is not kept; what was answered does not hang on it, nor another answer on that.
func TestHandedIn(t *testing.T) {
	r := newRandom(5)
	for range 30000 {
		size := randomSize(r)
		st := randomState(r, size)
		id := randomAsked(r, st)
		in := roomy(st, id, 77)
		got, known := seenAsSaid(t, in, size, id)
		knowsAsSaid(t, in, id)
		if !slices.Equal(in.Ids[:len(st.Ids)+2], slices.Concat(st.Ids, []int64{id, 77})) {
			t.Fatal("what was handed in has changed, or its spare room")
		}
		clear(in.Ids[:cap(in.Ids)])
		want, _ := chapterSeen(st, size, id)
		if !same(got, want) {
			t.Fatal("what was answered changed with what was handed in")
		}
		clear(got.Ids[:cap(got.Ids)])
		if again, is := Seen(st, size, id); !same(again, want) || is != known {
			t.Fatal("the same, asked again, is answered otherwise")
		}
	}
}

// 0.4: what is handed out has memory of its own, spare room too: what is written there is not seen in what was handed in.
func TestMemoryOfItsOwn(t *testing.T) {
	r := newRandom(6)
	for range 30000 {
		size := randomSize(r)
		st := randomState(r, size)
		in := roomy(st, 7, 77)
		got, _ := Seen(in, size, randomAsked(r, st))
		for i := range got.Ids[:cap(got.Ids)] {
			got.Ids[:cap(got.Ids)][i] = -12345
		}
		if !slices.Equal(in.Ids[:len(st.Ids)+2], slices.Concat(st.Ids, []int64{7, 77})) {
			t.Fatal("an answer shares memory with what was handed in")
		}
	}
}

// 0.8: none at all is the same, nil or empty.
func TestNilAndEmpty(t *testing.T) {
	for _, id := range numbers() {
		for _, size := range sizes() {
			x, xKnown := seenAsSaid(t, api.Dedup{}, size, id)
			y, yKnown := seenAsSaid(t, api.Dedup{Ids: make([]int64, 0, 3)}, size, id)
			if !same(x, y) || xKnown != yKnown {
				t.Fatal(x, y)
			}
		}
	}
}

// rowOf makes numbers of any bytes, one each, of which some are great ones.
func rowOf(b []byte) (row []int64) {
	for _, c := range b {
		row = append(row, int64(c>>2)<<(16*(c&3)))
	}
	return row
}

// FuzzRows looks for rows of numbers of which others are told as known than should be.
func FuzzRows(f *testing.F) {
	r := newRandom(7)
	f.Add(uint16(2), []byte{20, 20, 24, 28, 24, 20})
	for range 40 {
		f.Add(uint16(randomSize(r)), binary.BigEndian.AppendUint64(nil, r.Uint64()))
	}
	f.Fuzz(func(t *testing.T, n uint16, b []byte) {
		size, row := 1+int(n)%greatest, rowOf(b)
		asTheLast(t, size, row)
		soonAgain(t, size, row)
	})
}
