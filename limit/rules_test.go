package limit

import (
	"testing"

	"conduit/api"
)

// Every call ends and none panics, at numbers of which nothing else is promised too.
func TestAnyNumbers(t *testing.T) {
	l := []int64{-1 << 63, -1<<63 + 1, -1 << 40, -greatest, -2, -1, 0, 1, 2, greatest, greatest + 1, 1 << 40, 1<<40 + 1, 1<<63 - 1}
	for _, level := range l {
		for _, last := range l {
			for _, a := range l {
				for _, b := range l {
					for _, now := range l {
						st := api.Limit{Level: level, Last: last}
						New(a, b, now)
						Take(st, a, b, now)
						Wait(st, a, b, now)
					}
				}
			}
		}
	}
}

// 0.3: what is answered hangs on what is handed in alone, whatever was asked between.
func TestSameAgain(t *testing.T) {
	r := newRandom(7)
	for range 20000 {
		a, b := randomSize(r), randomSize(r)
		st := randomState(r, a, b)
		now := randomNow(r, st.Last)
		full, wait := New(a, b, now), Wait(st, a, b, now)
		left, ok := Take(st, a, b, now)
		other := randomState(r, b, a)
		Take(other, b, a, randomNow(r, other.Last))
		Wait(other, b, a, now)
		if again, is := Take(st, a, b, now); again != left || is != ok {
			t.Fatalf("Take(%v, %d, %d, %d): %v, %v, then %v, %v", st, a, b, now, left, ok, again, is)
		}
		if New(a, b, now) != full || Wait(st, a, b, now) != wait {
			t.Fatalf("%v, %d, %d, %d: answered otherwise, asked again", st, a, b, now)
		}
	}
}

// within is n brought into a range from least to most.
func within(n, least, most int64) int64 {
	return least + int64(uint64(n)%uint64(most-least+1))
}

// FuzzTakes looks for states and ticks of which something else comes than the chapter says.
func FuzzTakes(f *testing.F) {
	r := newRandom(8)
	f.Add(int64(2), int64(10), int64(0), int64(0), int64(4))
	for range 40 {
		f.Add(randomSize(r), randomSize(r), int64(r.Uint64()), randomTick(r), randomTick(r))
	}
	f.Fuzz(func(t *testing.T, a, b, level, last, now int64) {
		a, b = within(a, 1, greatest), within(b, 1, greatest)
		last, now = within(last, 0, api.MaxTick), within(now, 0, api.MaxTick)
		st := api.Limit{Level: within(level, 0, a*b), Last: last}
		wait := waitAsSaid(t, st, a, b, now)
		left, ok := takeAsSaid(t, st, a, b, now)
		if ok != (wait == 0) {
			t.Fatalf("Take(%v, %d, %d, %d): %v, but Wait: %d", st, a, b, now, ok, wait)
		}
		takeAsSaid(t, left, a, b, now)
		if New(a, b, now) != (api.Limit{Level: a * b, Last: now}) {
			t.Fatal(a, b, now)
		}
	})
}
