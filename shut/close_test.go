package shut

import (
	"slices"
	"testing"

	"conduit/api"
)

// P22.2: the order, then the cycle; each with the outcome at its number, and with none where there are not so many.
func TestCloseTurns(t *testing.T) {
	after := [][]int{{4}, {3}, {1}, {1}, nil}
	outcomes := []api.Result{gave(10), gave(11), gave(12), gave(13), gave(14), failed(15), panicked(api.PanOwn, 16)}
	for n := range len(outcomes) + 1 {
		l, good := closeAsSaid(t, after, outcomes[:n])
		if !good || !slices.Equal(ids(l), []int64{4, 0, 1, 2, 3}) {
			t.Fatalf("%d outcomes: %s, %t", n, show(l), good)
		}
		for _, d := range l {
			var want api.Result
			if d.Id < int64(n) {
				want = gave(10 + d.Id)
			}
			if !sameResult(d.Result, want) {
				t.Errorf("%d outcomes: %s", n, show(l))
			}
		}
	}
}

// P22.2: nothing to close is closed well.
func TestCloseNothing(t *testing.T) {
	for _, outcomes := range [][]api.Result{nil, {{}}, {failed(1)}, {panicked(api.PanNil, 0), failed(2)}} {
		if l, good := closeAsSaid(t, nil, outcomes); len(l) > 0 || !good {
			t.Errorf("%s, %t", show(l), good)
		}
	}
}

// P22.2: whatever becomes of one, in the order or in the cycle, first or last, it is told of it, and the others are closed as they would be.
func TestCloseOneFails(t *testing.T) {
	after := [][]int{{2}, {0, 2}, nil, {4}, {3}, {3}}
	wanted := []int64{2, 0, 1, 3, 4, 5}
	for at := range after {
		for _, bad := range badResults() {
			outcomes := []api.Result{{}, gave(1), {}, gave(3), {}, {}}
			outcomes[at] = bad
			l, good := closeAsSaid(t, after, outcomes)
			if good || !slices.Equal(ids(l), wanted) {
				t.Errorf("%d: %s, %t", at, show(l), good)
			}
			if got, none := joinAsSaid(t, l); none || !sameAll(got, []api.Done{{Id: int64(at), Result: bad}}) {
				t.Errorf("%d: %s, %t", at, show(got), none)
			}
		}
	}
}

// P22.2: all panic, or all fail: all are told.
func TestCloseAllFail(t *testing.T) {
	after := [][]int{nil, {0}, {3}, {2}, {1}}
	for _, bad := range badResults() {
		l, good := closeAsSaid(t, after, slices.Repeat([]api.Result{bad}, len(after)))
		if good || !slices.Equal(ids(l), []int64{0, 1, 4, 2, 3}) {
			t.Errorf("%s, %t", show(l), good)
		}
		if got, none := joinAsSaid(t, l); none || !sameAll(got, l) {
			t.Errorf("%s, %t", show(got), none)
		}
	}
}

// P22.2: an outcome is told whole, fields that have no meaning beside its error too.
func TestCloseWholeOutcome(t *testing.T) {
	body := read(t, `[("a", 5), &1([!3"e"])]`)
	for _, e := range []api.Errno{api.OK, api.ErrHandler, api.ErrPanic, api.ErrTyped, -5} {
		r := api.Result{Err: e, Code: -7, Panic: api.Panic{Kind: 99, Num: -9}, Has: true, Body: body}
		if l, good := closeAsSaid(t, [][]int{nil}, []api.Result{r}); good != (e == api.OK) || !sameAll(l, []api.Done{{Result: r}}) {
			t.Errorf("%s, %t", show(l), good)
		}
	}
}

// P22.2: any lists and outcomes.
func TestCloseRandom(t *testing.T) {
	r := newRandom(2)
	well := 0
	for range 20000 {
		after := randomAfter(r, 10)
		if _, good := closeAsSaid(t, after, randomOutcomes(r, len(after))); good {
			well++
		}
	}
	if well < 1000 || well > 15000 {
		t.Errorf("%d of 20000 were closed well", well)
	}
}

// P22.2: all lists of three things, each one panicking or not.
func TestCloseSmall(t *testing.T) {
	eachAfter(3, []int{0, 1, 2}, func(after [][]int) {
		for bits := range 8 {
			outcomes := make([]api.Result, 3)
			for i := range outcomes {
				if bits>>i&1 == 1 {
					outcomes[i] = panicked(api.PanOwn, int64(i))
				}
			}
			closeAsSaid(t, after, outcomes)
		}
	})
}

// P22.2: many things that all panic, and a body that is deep.
func TestCloseMany(t *testing.T) {
	outcomes := slices.Repeat([]api.Result{panicked(api.PanDivide, 0), failed(1)}, many/2)
	d := api.Datum{Kind: api.KInt, Int: 1}
	for range 60000 {
		d = api.Datum{Kind: api.KList, List: []api.Datum{d}}
	}
	outcomes[5] = api.Result{Err: api.ErrPanic, Body: d}
	after := manyAfter(func(i int) []int { return []int{i + 1} })
	l, good := Close(after, outcomes)
	want, _ := chapterClose(api.Closing{Order: numbersTo(many, true)}, outcomes)
	if good || !sameAll(l, want) {
		t.Errorf("%d closed, %t", len(l), good)
	}
	if got, none := Join(l); none || !sameAll(got, want) {
		t.Errorf("%d failed, %t", len(got), none)
	}
}

// A thing is closed once, however often it has its turn, and the first time it has one.
func TestThingsOnce(t *testing.T) {
	for _, bad := range []api.Result{{}, failed(3), panicked(api.PanNil, 0)} {
		c := closing{things: thingsOf(3, []api.Result{gave(1), bad})}
		c.inTurn([]int{1, 1, 2, 1, 0, 2})
		c.inTurn([]int{0, 1, 2})
		c.close(1)
		if want := []api.Done{{Id: 1, Result: bad}, {Id: 2}, {Id: 0, Result: gave(1)}}; !sameAll(c.done, want) {
			t.Error(show(c.done))
		}
	}
}

// What an outcome says is a panic does panic, and is caught where the thing is closed.
func TestThingsPanic(t *testing.T) {
	l := thingsOf(2, []api.Result{failed(3), panicked(api.PanIndex, 4)})
	if d := l[0].close(); !sameDone(d, api.Done{Result: failed(3)}) {
		t.Error(show([]api.Done{d}))
	}
	if d := l[1].closed(); !sameDone(d, api.Done{Id: 1, Result: panicked(api.PanIndex, 4)}) {
		t.Error(show([]api.Done{d}))
	}
	defer func() {
		if f, ok := recover().(failure); !ok || !sameDone(f.Done, api.Done{Id: 1, Result: panicked(api.PanIndex, 4)}) {
			t.Error(f)
		}
	}()
	t.Error(show([]api.Done{l[1].close()}))
}
