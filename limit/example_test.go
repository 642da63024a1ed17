package limit

import (
	"testing"

	"conduit/api"
)

// The chapter's example 1.
func TestExampleTake(t *testing.T) {
	st := New(2, 10, 0)
	if st != (api.Limit{Level: 20}) {
		t.Fatal(st)
	}
	for i, c := range []struct {
		now  int64
		want api.Limit
		ok   bool
	}{
		{0, api.Limit{Level: 10}, true},
		{0, api.Limit{}, true},
		{0, api.Limit{}, false},
		{4, api.Limit{Level: 8, Last: 4}, false},
		{5, api.Limit{Level: 0, Last: 5}, true},
	} {
		var ok bool
		if st, ok = takeAsSaid(t, st, 2, 10, c.now); st != c.want || ok != c.ok {
			t.Errorf("%d: %v, %v", i, st, ok)
		}
	}
}

// The chapter's example 2.
func TestExampleWait(t *testing.T) {
	for _, c := range []struct {
		st        api.Limit
		now, want int64
	}{{api.Limit{Last: 5}, 5, 5}, {api.Limit{Level: 8, Last: 4}, 4, 1}, {api.Limit{Level: 8, Last: 9}, 3, 1}} {
		if got := waitAsSaid(t, c.st, 2, 10, c.now); got != c.want {
			t.Errorf("%v at %d: %d", c.st, c.now, got)
		}
	}
}
