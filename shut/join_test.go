package shut

import (
	"errors"
	"slices"
	"testing"

	"conduit/api"
)

// P22.3: those with an error, in their order, whatever their numbers.
func TestJoinTurns(t *testing.T) {
	good, bad := api.Done{Id: 1, Result: gave(2)}, api.Done{Id: -7, Result: failed(3)}
	other, zero := api.Done{Id: 1, Result: panicked(api.PanNil, 0)}, api.Done{}
	for i, c := range []struct {
		l, want []api.Done
		none    bool
	}{
		{nil, nil, true},
		{[]api.Done{zero}, nil, true},
		{[]api.Done{good, zero, good}, nil, true},
		{[]api.Done{bad}, []api.Done{bad}, false},
		{[]api.Done{good, bad}, []api.Done{bad}, false},
		{[]api.Done{bad, good}, []api.Done{bad}, false},
		{[]api.Done{other, good, bad, zero, other, bad, bad}, []api.Done{other, bad, other, bad, bad}, false},
	} {
		if got, none := joinAsSaid(t, c.l); !sameAll(got, c.want) || none != c.none {
			t.Errorf("%d: %s, %t", i, show(got), none)
		}
	}
}

// P22.3: a result is an error by its Err alone, and any Err but OK is one.
func TestJoinErrors(t *testing.T) {
	for _, bad := range badResults() {
		l := []api.Done{{Id: 1 << 62, Result: bad}}
		if got, none := joinAsSaid(t, l); none || !sameAll(got, l) {
			t.Errorf("%s, %t", show(got), none)
		}
	}
	for _, good := range []api.Result{{}, gave(0), {Code: 3}, {Panic: api.Panic{Kind: api.PanNil, Num: 1}}, {Has: true}, {Body: read(t, `!3"e"`)}} {
		if got, none := joinAsSaid(t, []api.Done{{Id: 5, Result: good}}); !none || len(got) > 0 {
			t.Errorf("%s, %t", show(got), none)
		}
	}
}

// P22.3: any results.
func TestJoinRandom(t *testing.T) {
	r := newRandom(3)
	for range 20000 {
		l, none := joinAsSaid(t, randomDone(r))
		if again, noneAgain := joinAsSaid(t, l); none != noneAgain || !sameAll(again, l) {
			t.Fatalf("%s, then %s", show(l), show(again))
		}
	}
}

// The errors of many are one error, which unwraps to them in their order, each found by errors.As; without any there is no error.
func TestOneError(t *testing.T) {
	for _, l := range [][]api.Done{nil, {{}}, {{Id: 3, Result: gave(1)}, {}}} {
		if err := errorOf(l); err != nil || len(failedOf(err)) > 0 {
			t.Error(err)
		}
	}
	err := errorOf([]api.Done{{Id: 4}, {Id: 7, Result: failed(1)}, {Id: 5, Result: panicked(api.PanNil, 0)}})
	var first failure
	if !errors.As(err, &first) || first.Id != 7 {
		t.Error(first)
	}
	all, ok := err.(interface{ Unwrap() []error })
	if !ok || len(all.Unwrap()) != 2 {
		t.Fatal(err)
	}
	if got := ids(failedOf(err)); !slices.Equal(got, []int64{7, 5}) {
		t.Error(got)
	}
	if err.Error() != "7: error 100; 5: error 110" {
		t.Error(err)
	}
	if got := failedOf(errors.New("other")); len(got) > 0 {
		t.Error(show(got))
	}
	if got := failedOf(failures{errors.New("other"), first}); !slices.Equal(ids(got), []int64{7}) {
		t.Error(show(got))
	}
}
