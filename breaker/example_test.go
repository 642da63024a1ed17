package breaker

import (
	"testing"

	"conduit/api"
)

// The chapter's example 1.
func TestExampleRow(t *testing.T) {
	const a, b = 2, 10
	bad := of(api.ErrHandler)
	st := Done(Done(api.Breaker{}, a, b, 5, bad), a, b, 6, bad)
	if st != (api.Breaker{Fails: 2, Until: 16}) || State(st, a, 6) != 1 {
		t.Fatal(st)
	}
	if Ask(st, a, 15) || !Ask(st, a, 16) || State(st, a, 16) != 2 {
		t.Error("it is open up to 15, and half open from 16 on")
	}
	if st = Done(st, a, b, 16, bad); st != (api.Breaker{Fails: 2, Until: 26}) {
		t.Fatal(st)
	}
	if st = Done(st, a, b, 26, api.Result{}); st != (api.Breaker{}) || State(st, a, 26) != 0 {
		t.Error(st)
	}
}

// The chapter's example 2.
func TestExampleKind(t *testing.T) {
	if Kind(of(api.ErrLimit)) != 0 || Kind(of(api.ErrPanic)) != -1 {
		t.Error("ErrLimit is neither, ErrPanic is bad")
	}
}
