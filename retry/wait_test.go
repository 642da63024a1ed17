package retry

import "testing"

// P12.3: small numbers, all of them.
func TestWaitSmall(t *testing.T) {
	for k := int64(-2); k < 9; k++ {
		for base := int64(-2); base < 20; base++ {
			for most := int64(-2); most < 300; most++ {
				waitAsSaid(t, k, base, most)
			}
		}
	}
}

// edges is numbers at which something may turn over.
func edges() []int64 {
	l := []int64{-1 << 63, -1<<63 + 1, -1 << 32, -5, -1, 0, 5, 62, 63, 64, 65, 127, 128, 200, 256, 1<<62 + 1, 1<<63 - 2, 1<<63 - 1}
	for _, bit := range []int{0, 1, 2, 3, 31, 32, 33, 40, 60, 61, 62} {
		l = append(l, 1<<bit, 1<<bit-1, 3<<bit)
	}
	return l
}

// P12.3: base times 2^k as a true number, where it is no int64 too.
func TestWaitEdges(t *testing.T) {
	l := edges()
	for _, k := range l {
		for _, base := range l {
			for _, most := range l {
				waitAsSaid(t, k, base, most)
			}
		}
	}
}

// P12.3: the last product that is an int64, and the first one that is none.
func TestWaitTurns(t *testing.T) {
	const all = 1<<63 - 1
	for _, c := range [][4]int64{
		{62, 1, all, 1 << 62}, {63, 1, all, all}, {64, 1, all, all}, {64, 3, 7, 7}, {1, 1<<62 - 1, all, 1<<63 - 2}, {1, 1 << 62, all, all},
		{61, 3, all, 3 << 61}, {62, 3, all, all}, {2, all, all, all}, {0, all, all, all}, {0, all, all - 1, all - 1}, {1 << 62, 1, 1, 1},
		{-1 << 63, 7, 9, 7}, {-1, 7, 5, 5}, {5, -1, 9, 0}, {5, -1 << 63, 9, 0}, {5, 1, -1, 0}, {5, 1, -1 << 63, 0}, {5, 1, 0, 0}, {63, 0, all, 0}, {1 << 40, 0, all, 0},
		{4, 2, 32, 32}, {4, 2, 31, 31}, {4, 2, 33, 32},
	} {
		if got := waitAsSaid(t, c[0], c[1], c[2]); got != c[3] {
			t.Errorf("%v: %d", c, got)
		}
	}
}

// P12.3: any numbers.
func TestWaitRandom(t *testing.T) {
	r := newRandom(2)
	for range 300000 {
		waitAsSaid(t, int64(r.IntN(70))-3, randomNumber(r), randomNumber(r))
	}
}
