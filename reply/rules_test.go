package reply

import (
	"math"
	"slices"
	"testing"

	"conduit/api"
)

// Every call ends and none panics, at states and numbers of which nothing else is promised too.
func TestAnyNumbers(t *testing.T) {
	numbers := []int64{math.MinInt64, math.MinInt64 + 1, -1, 0, 1, 2, greatest, greatest + 1, math.MaxInt64}
	for _, next := range numbers {
		odd := api.Ask{Corr: next, Until: -next, Topic: "#"}
		for _, l := range [][]api.Ask{nil, {odd}, {odd, odd, {}}, until(3, 1, 0).Wait, make([]api.Ask, api.MaxAsks+5)} {
			st := api.Asks{Next: next, Wait: l}
			for _, n := range numbers {
				Open(st, "+/", n)
				Expire(st, n)
				for _, corr := range numbers {
					Answer(st, corr, "#", n)
				}
			}
		}
	}
}

// Past the bounds nothing is opened: where more wait than may, and where no number is left.
func TestPastTheBounds(t *testing.T) {
	for _, st := range []api.Asks{{Next: 5000, Wait: until(make([]int64, api.MaxAsks+1)...).Wait}, {Next: greatest + 1}, {Next: math.MaxInt64}} {
		if got, n, e := Open(st, "r", 0); e != api.ErrFull || n != 0 || !same(got, st) {
			t.Errorf("%s: %d, %v", show(got), n, e)
		}
	}
}

// spare is what stands in the spare room of what is handed in: a request that would be found if it played a part.
func spare(corr int64, topic string) api.Ask { return api.Ask{Corr: corr, Until: 1, Topic: topic} }

// roomy is a state in memory with spare room behind, where others stand.
func roomy(st api.Asks, behind ...api.Ask) api.Asks {
	st.Wait = slices.Concat(st.Wait, behind)[:len(st.Wait)]
	return st
}

// do is one of the three calls; what it gives beside the state is a list, a number and an error.
type do func(st api.Asks) (api.Asks, []api.Ask, int64, api.Errno)

func dos(corr int64, topic string, tick int64) []do {
	return []do{
		func(st api.Asks) (api.Asks, []api.Ask, int64, api.Errno) {
			x, n, e := Open(st, topic, tick)
			return x, nil, n, e
		},
		func(st api.Asks) (api.Asks, []api.Ask, int64, api.Errno) {
			x, e := Answer(st, corr, topic, tick)
			return x, nil, 0, e
		},
		func(st api.Asks) (api.Asks, []api.Ask, int64, api.Errno) {
			x, l := Expire(st, tick)
			return x, l, 0, api.OK
		},
	}
}

// scribble writes over requests and all spare room.
func scribble(l []api.Ask) {
	l = l[:cap(l)]
	for i := range l {
		l[i] = api.Ask{Corr: -12345, Until: -1, Topic: "scribbled"}
	}
}

// 0.3, 0.4, 0.8: what is handed in stays as it is, spare room too, plays no part behind its end, and is not kept; what was answered does not hang on it.
func TestHandedIn(t *testing.T) {
	r := newRandom(6)
	for range 20000 {
		st := randomState(r, 8)
		corr, topic := randomAnswer(r, st)
		behind := []api.Ask{spare(corr, topic), spare(st.Next+1, topic)}
		for k, ask := range dos(corr, topic, randomTick(r)) {
			in := roomy(st, behind...)
			got, l, n, e := ask(in)
			if !slices.Equal(in.Wait[:len(st.Wait)+2], slices.Concat(st.Wait, behind)) {
				t.Fatalf("%d: what was handed in has changed, or its spare room", k)
			}
			was, wasList := api.Asks{Next: got.Next, Wait: slices.Clone(got.Wait)}, slices.Clone(l)
			scribble(in.Wait)
			if !same(got, was) || !slices.Equal(l, wasList) {
				t.Fatalf("%d: what was answered changed with what was handed in", k)
			}
			again, l, n2, e2 := ask(st)
			if !same(again, was) || !slices.Equal(l, wasList) || n != n2 || e != e2 {
				t.Fatalf("%d: the same, asked again, is answered otherwise", k)
			}
		}
	}
}

// 0.4: what is handed out has memory of its own, spare room too: what is written there is seen neither in what was handed in nor in what was handed out beside it.
func TestMemoryOfItsOwn(t *testing.T) {
	r := newRandom(7)
	for range 20000 {
		st := randomState(r, 8)
		corr, topic := randomAnswer(r, st)
		behind := []api.Ask{spare(corr, topic), spare(st.Next+1, topic)}
		in := roomy(st, behind...)
		for k, ask := range dos(corr, topic, randomTick(r)) {
			got, l, _, _ := ask(in)
			wasList := slices.Clone(l)
			scribble(got.Wait)
			if !slices.Equal(l, wasList) {
				t.Fatalf("%d: two lists of one answer share memory", k)
			}
			scribble(l)
			if !slices.Equal(in.Wait[:len(st.Wait)+2], slices.Concat(st.Wait, behind)) {
				t.Fatalf("%d: an answer shares memory with what was handed in", k)
			}
		}
	}
}

// 0.3: two ways on from one state know nothing of each other.
func TestTwoWaysOn(t *testing.T) {
	st, _, _ := Open(api.Asks{}, "r", 0)
	x, _, _ := Open(st, "x", 3)
	y, _, _ := Open(st, "y", 4)
	z, _ := Answer(st, 1, "r", 0)
	if x.Wait[1].Topic != "x" || y.Wait[1].Topic != "y" || len(st.Wait) != 1 || len(z.Wait) != 0 {
		t.Error(show(st), show(x), show(y), show(z))
	}
}

// 0.5, 0.6: beside ErrFull and ErrReply the state comes out as it went in, and no number is told.
func TestBesideErrors(t *testing.T) {
	r := newRandom(8)
	for range 5000 {
		st := randomState(r, 8)
		if got, e := Answer(st, st.Next+1, "r", 0); e != api.ErrReply || !same(got, st) {
			t.Fatal(show(got), e)
		}
		st.Next = greatest
		if got, n, e := Open(st, "r", 0); e != api.ErrFull || n != 0 || !same(got, st) {
			t.Fatal(show(got), n, e)
		}
	}
}

// 0.8: none at all is the same, nil or empty.
func TestNilAndEmpty(t *testing.T) {
	for _, next := range []int64{0, 7, greatest} {
		for k, ask := range dos(7, "r", 3) {
			x, l, n, e := ask(api.Asks{Next: next})
			y, m, n2, e2 := ask(api.Asks{Next: next, Wait: make([]api.Ask, 0, 3)})
			if !same(x, y) || !slices.Equal(l, m) || n != n2 || e != e2 {
				t.Errorf("%d, next %d: %s, %s", k, next, show(x), show(y))
			}
		}
	}
}
