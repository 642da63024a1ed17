package buffer

import (
	"testing"

	"conduit/api"
)

// The chapter's example 1.
func TestExampleHeld(t *testing.T) {
	const a, b = 3, 10
	st, out := putAsSaid(t, api.Buffer{}, a, 5, plain(1))
	if len(out) != 0 {
		t.Error(idsOf(out))
	}
	if st, out = putAsSaid(t, st, a, 7, plain(2)); len(out) != 0 || !same(st, of(5, 1, 2)) {
		t.Error(show(st), idsOf(out))
	}
	if st, out = tickAsSaid(t, st, b, 14); len(out) != 0 || !same(st, of(5, 1, 2)) {
		t.Error(show(st), idsOf(out))
	}
	if st, out = tickAsSaid(t, st, b, 15); !sameMsgs(out, plains(1, 2)) || !same(st, api.Buffer{}) {
		t.Error(show(st), idsOf(out))
	}
	st, _ = putAsSaid(t, st, a, 15, plain(3))
	st, _ = putAsSaid(t, st, a, 15, plain(4))
	if st, out = putAsSaid(t, st, a, 16, plain(5)); !sameMsgs(out, plains(3, 4, 5)) || !same(st, api.Buffer{}) {
		t.Error(show(st), idsOf(out))
	}
}

// The chapter's example 2.
func TestExampleNext(t *testing.T) {
	st, _ := Put(api.Buffer{}, 3, 5, plain(1))
	st, _ = Put(st, 3, 7, plain(2))
	if at, ok := nextAsSaid(t, st, 10); at != 15 || !ok {
		t.Error(at, ok)
	}
	if at, ok := nextAsSaid(t, st, 0); at != 0 || ok {
		t.Error(at, ok)
	}
}
