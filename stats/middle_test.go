package stats

import (
	"math/big"
	"slices"
	"testing"
)

// chapterMiddle is P32.3.
func chapterMiddle(l []int64, thousandths int) (int64, bool) {
	if len(l) == 0 {
		return 0, false
	}
	place := big.NewInt(int64(thousandths))
	place.Mul(place, big.NewInt(int64(len(l)-1)))
	place.Div(place, big.NewInt(1000))
	return l[place.Int64()], true
}

func randomRising(seed uint64, n int) (l []int64) {
	r := newRandom(seed)
	for range n {
		l = append(l, r.Int64N(lastTick+1))
	}
	slices.Sort(l)
	return l
}

// P32.3: of each row and each number of thousandths, the place cut down.
func TestMiddle(t *testing.T) {
	for _, n := range []int{1, 2, 3, 4, 7, 10, 999, 1000, 1001, 1002, 2001, 5000} {
		l := randomRising(uint64(n), n)
		for k := range 1001 {
			x, ok := Middle(l, k)
			if said, is := chapterMiddle(l, k); x != said || ok != is {
				t.Fatal(n, k, x, ok)
			}
		}
	}
}

// P32.3: 0 and false of none, whatever is asked.
func TestMiddleOfNone(t *testing.T) {
	for _, l := range [][]int64{nil, {}, make([]int64, 0, 4)} {
		for _, k := range []int{-1 << 63, -1, 0, 1, 500, 1000, 1001, 1<<63 - 1} {
			if x, ok := Middle(l, k); x != 0 || ok {
				t.Error(l, k, x, ok)
			}
		}
	}
}

// P32.3: the only one, the least one among equal ones, nought and what is below it: told with true.
func TestMiddleOfFew(t *testing.T) {
	for _, c := range []struct {
		l    []int64
		k    int
		want int64
	}{
		{[]int64{7}, 0, 7}, {[]int64{7}, 1, 7}, {[]int64{7}, 999, 7}, {[]int64{7}, 1000, 7}, {[]int64{0}, 500, 0},
		{[]int64{3, 8}, 999, 3}, {[]int64{3, 8}, 1000, 8}, {[]int64{3, 3, 3}, 400, 3}, {[]int64{-4, 0, 4}, 0, -4}, {[]int64{1, 2, 3, 4, 5}, 749, 3}, {[]int64{1, 2, 3, 4, 5}, 750, 4},
	} {
		if x, ok := Middle(c.l, c.k); x != c.want || !ok {
			t.Error(c, x, ok)
		}
	}
}

// 0.1: fewer than none in a thousand is none, more than all of them is all; the call ends at any row, rising or not.
func TestMiddleOfAny(t *testing.T) {
	for _, l := range [][]int64{{1}, {1, 5, 9}, {9, 1, 5}, randomRising(3, 3000)} {
		for _, k := range []int{-1 << 63, -1<<63 + 1, -1001, -1000, -1} {
			if x, ok := Middle(l, k); x != l[0] || !ok {
				t.Error(k, x, ok)
			}
		}
		for _, k := range []int{1001, 1500, 2000, 1<<62 + 1, 1<<63 - 1} {
			if x, ok := Middle(l, k); x != l[len(l)-1] || !ok {
				t.Error(k, x, ok)
			}
		}
	}
}
