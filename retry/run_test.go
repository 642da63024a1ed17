package retry

import (
	"slices"
	"testing"

	"conduit/api"
)

// P12.2: nothing would come of any try.
func TestRunNothing(t *testing.T) {
	for _, tries := range []int64{-1 << 63, -1, 0, 1, 2, 16, 1<<63 - 1} {
		for _, l := range [][]api.Result{nil, {}, make([]api.Result, 0, 5), asking()[:0]} {
			if got, made := Run(tries, l); !sameResult(got, api.Result{}) || made != 0 {
				t.Errorf("%d: %s, %d", tries, show(got), made)
			}
		}
	}
}

// P12.2: one try is made at least, whatever tries says, and one is enough where its result is not worth another.
func TestRunOnce(t *testing.T) {
	behind := []api.Result{gave(7), failed(8)}
	for _, r := range asking() {
		for _, tries := range []int64{-1 << 63, -1 << 32, -1, 0, 1} {
			if got, made := Run(tries, append([]api.Result{r}, behind...)); !sameResult(got, r) || made != 1 {
				t.Errorf("%s, %d tries: %s, %d", show(r), tries, show(got), made)
			}
		}
		if got, made := Run(2, append([]api.Result{r}, behind...)); !sameResult(got, gave(7)) || made != 2 {
			t.Errorf("%s, 2 tries: %s, %d", show(r), show(got), made)
		}
	}
	for _, r := range ending() {
		for _, tries := range []int64{-1 << 63, -1, 0, 1, 2, 3, 16, 1<<63 - 1} {
			if got, made := Run(tries, append([]api.Result{r}, behind...)); !sameResult(got, r) || made != 1 {
				t.Errorf("%s, %d tries: %s, %d", show(r), tries, show(got), made)
			}
		}
	}
}

// P12.2: as many as tries, as places, or up to the first that is enough, whichever comes first.
func TestRunEnds(t *testing.T) {
	for places := 1; places <= 7; places++ {
		for enough := range 8 {
			l := make([]api.Result, places)
			for i := range l {
				l[i] = failed(int64(i))
				if i == enough {
					l[i] = gave(int64(i))
				}
			}
			for tries := int64(-1); tries < 9; tries++ {
				want := min(max(int(tries), 1), places, enough+1)
				if got, made := runAsSaid(t, tries, l); made != want || !sameResult(got, l[want-1]) {
					t.Errorf("%d tries of %d, the place %d enough: %s, %d", tries, places, enough, show(got), made)
				}
			}
			for _, tries := range []int64{1 << 31, 1 << 32, 1<<32 + 1, 1<<63 - 1} {
				runAsSaid(t, tries, l)
			}
		}
	}
}

// P12.2: many places, and a body that is deep.
func TestRunMany(t *testing.T) {
	l := slices.Repeat(asking(), 50000)
	if _, made := runAsSaid(t, 1<<63-1, l); made != len(l) {
		t.Errorf("%d of %d", made, len(l))
	}
	if _, made := runAsSaid(t, 300001, l); made != 300001 {
		t.Errorf("%d, not 300001", made)
	}
	d := api.Datum{Kind: api.KInt, Int: 1}
	for range 60000 {
		d = api.Datum{Kind: api.KList, List: []api.Datum{d}}
	}
	l[len(l)-1] = api.Result{Has: true, Body: d}
	if got, made := Run(1<<63-1, l); made != len(l) || !sameValue(got.Body, d) {
		t.Errorf("%d of %d, or a body that is another one", made, len(l))
	}
}

// P12.2: any rows, with fields that have no meaning there.
func TestRunRandom(t *testing.T) {
	r := newRandom(1)
	for range 50000 {
		runAsSaid(t, randomTries(r), randomRow(r))
	}
}
