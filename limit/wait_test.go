package limit

import (
	"testing"

	"conduit/api"
)

// P13.3: small numbers, all of them: Take itself, asked at one tick behind the other.
func TestWaitSmall(t *testing.T) {
	for a := int64(1); a < 7; a++ {
		for b := int64(1); b < 14; b++ {
			for level := range a*b + 1 {
				for now := range int64(6) {
					st := api.Limit{Level: level, Last: 2}
					want := int64(0)
					// Behind b ticks b parts at least have come.
					for ; want <= b; want++ {
						if _, ok := Take(st, a, b, max(st.Last, now)+want); ok {
							break
						}
					}
					if got := waitAsSaid(t, st, a, b, now); got != want {
						t.Fatalf("Wait(%v, %d, %d, %d): %d, not %d", st, a, b, now, got, want)
					}
				}
			}
		}
	}
}

// P13.3: what lies at the bounds, the last tick too, behind which it is counted on.
func TestWaitEdges(t *testing.T) {
	for _, a := range sizes() {
		for _, b := range sizes() {
			for _, level := range levels(a, b) {
				for _, last := range ticks() {
					for _, now := range ticks() {
						waitAsSaid(t, api.Limit{Level: level, Last: last}, a, b, now)
					}
				}
			}
		}
	}
}

// P13.3: none is waited for where there is one, a part that is missing costs a whole tick, what has come is counted, now ahead of Last plays no part.
func TestWaitTurns(t *testing.T) {
	for i, c := range []struct {
		st              api.Limit
		a, b, now, want int64
	}{
		{api.Limit{Level: 20}, 2, 10, 0, 0},
		{api.Limit{Level: 10}, 2, 10, 0, 0},
		{api.Limit{Level: 9}, 2, 10, 0, 1},
		{api.Limit{Level: 8}, 2, 10, 0, 1},
		{api.Limit{Level: 7}, 2, 10, 0, 2},
		{api.Limit{}, 2, 10, 0, 5},
		{api.Limit{}, 3, 10, 0, 4},
		{api.Limit{}, 2, 10, 3, 2},
		{api.Limit{}, 2, 10, 5, 0},
		{api.Limit{}, 2, 10, 500, 0},
		{api.Limit{Last: 9}, 2, 10, 0, 5},
		{api.Limit{Last: api.MaxTick}, 2, 10, api.MaxTick, 5},
		{api.Limit{}, 1, greatest, 0, greatest},
		{api.Limit{Level: 1}, 1, greatest, 0, greatest - 1},
		{api.Limit{}, greatest, 1, 0, 1},
		{api.Limit{}, greatest, greatest, 0, 1},
		{api.Limit{}, greatest - 1, greatest, 0, 2},
		{api.Limit{}, greatest, greatest, api.MaxTick, 0},
	} {
		if got := waitAsSaid(t, c.st, c.a, c.b, c.now); got != c.want {
			t.Errorf("%d: %d", i, got)
		}
	}
}

// P13.3: any numbers.
func TestWaitRandom(t *testing.T) {
	r := newRandom(3)
	waits := 0
	for range 200000 {
		a, b := randomSize(r), randomSize(r)
		st := randomState(r, a, b)
		if waitAsSaid(t, st, a, b, randomNow(r, st.Last)) > 0 {
			waits++
		}
	}
	if waits < 1000 {
		t.Errorf("only %d waits", waits)
	}
}
