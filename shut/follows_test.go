package shut

import (
	"slices"
	"testing"

	"conduit/api"
)

// inOrder is P22.4: none of Order stands ahead of one of its after.
func inOrder(t *testing.T, after [][]int) {
	t.Helper()
	c := Order(after)
	for at, i := range c.Order {
		for k := range after {
			if mustGoAhead(after, i, k) && !slices.Contains(c.Order[:at], k) {
				t.Fatalf("%v: %v: %d is closed, and %d is not", after, c, i, k)
			}
		}
	}
}

// onceAll is P22.5: each thing once, whatever becomes of others: of itself what its outcome says.
func onceAll(t *testing.T, after [][]int, outcomes []api.Result) {
	t.Helper()
	l, _ := Close(after, outcomes)
	told := make([]int, len(after))
	for _, d := range l {
		told[d.Id]++
		var want api.Result
		if int(d.Id) < len(outcomes) {
			want = outcomes[d.Id]
		}
		if !sameResult(d.Result, want) {
			t.Fatalf("%v: %s", after, show(l))
		}
	}
	for _, n := range told {
		if n != 1 {
			t.Fatalf("%v: %s", after, show(l))
		}
	}
}

// reached is where one comes to from each thing along after, in a step at least.
func reached(after [][]int) [][]bool {
	ways := make([][]bool, len(after))
	for i := range ways {
		ways[i] = make([]bool, len(after))
		for k := range ways {
			ways[i][k] = mustGoAhead(after, i, k)
		}
	}
	for mid := range ways {
		for i := range ways {
			for k := range ways {
				ways[i][k] = ways[i][k] || ways[i][mid] && ways[mid][k]
			}
		}
	}
	return ways
}

// comesRound is P22.6: a thing is in the cycle just if a way from it comes to something twice.
func comesRound(t *testing.T, after [][]int) {
	t.Helper()
	c, ways := Order(after), reached(after)
	for i := range after {
		round := ways[i][i]
		for k := range after {
			round = round || ways[i][k] && ways[k][k]
		}
		if slices.Contains(c.Cycle, i) != round || slices.Contains(c.Order, i) == round {
			t.Fatalf("%v: %v: %d", after, c, i)
		}
	}
}

// P22.4, P22.6: of all lists of up to four things.
func TestFollowsSmall(t *testing.T) {
	for n := range 5 {
		eachAfter(n, numbersTo(n, false), func(after [][]int) {
			inOrder(t, after)
			comesRound(t, after)
		})
	}
}

// P22.4, P22.5, P22.6: of any lists, with things that fail and panic.
func TestFollowsRandom(t *testing.T) {
	r := newRandom(4)
	for range 10000 {
		after := randomAfter(r, 16)
		inOrder(t, after)
		comesRound(t, after)
		onceAll(t, after, randomOutcomes(r, len(after)))
	}
}

// P22.5: what is told of one does not hang on what becomes of another.
func TestOthersPlayNoPart(t *testing.T) {
	r := newRandom(5)
	for range 5000 {
		after := randomAfter(r, 8)
		outcomes := randomOutcomes(r, len(after))
		if len(outcomes) == 0 {
			continue
		}
		was, _ := Close(after, outcomes)
		at := r.IntN(len(outcomes))
		outcomes[at] = randomResult(r)
		is, _ := Close(after, outcomes)
		for i := range is {
			if is[i].Id != was[i].Id || is[i].Id != int64(at) && !sameDone(is[i], was[i]) {
				t.Fatalf("%v, %d: %s, then %s", after, at, show(was), show(is))
			}
		}
	}
}

// P22.7: without lists in after: as they stand.
func TestWithoutLists(t *testing.T) {
	for n := range 200 {
		for _, none := range [][]int{nil, {}, make([]int, 0, 2)} {
			after := make([][]int, n)
			for i := range after {
				after[i] = none
			}
			if got := Order(after); !sameOrder(got, api.Closing{Order: numbersTo(n, false)}) {
				t.Errorf("%d things: %v", n, got)
			}
			l, good := Close(after, nil)
			if want, _ := chapterClose(api.Closing{Order: numbersTo(n, false)}, nil); !good || !sameAll(l, want) {
				t.Errorf("%d things: %s, %t", n, show(l), good)
			}
		}
	}
}
