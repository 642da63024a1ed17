package timer

import (
	"slices"
	"testing"

	"conduit/api"
)

// The chapter's example 1.
func TestExampleOrder(t *testing.T) {
	w := New(0)
	if !w.Add(5, 1) || !w.Add(3, 2) || !w.Add(5, 3) {
		t.Error("not added")
	}
	if got := w.Go(4); !slices.Equal(got, []api.Fired{{At: 3, Id: 2}}) {
		t.Error(got)
	}
	if got := w.Go(5); !slices.Equal(got, []api.Fired{{At: 5, Id: 1}, {At: 5, Id: 3}}) {
		t.Error(got)
	}
	if !w.Add(2, 9) || w.Now() != 5 {
		t.Error(w.Now())
	}
	if at, ok := w.Next(); at != 6 || !ok {
		t.Error(at, ok)
	}
}

// The chapter's example 2.
func TestExampleEnd(t *testing.T) {
	w := New(0)
	if !w.Add(1<<40, 1) {
		t.Error("not added")
	}
	if at, ok := w.Next(); at != 1<<40 || !ok {
		t.Error(at, ok)
	}
	if got := w.Go(1 << 41); !slices.Equal(got, []api.Fired{{At: 1 << 40, Id: 1}}) || w.Now() != 1<<40 {
		t.Error(got, w.Now())
	}
	if w.Add(1<<40+1, 2) {
		t.Error("added")
	}
}

// The chapter's example 2: the tick is too late, whatever time it is.
func TestExampleTooLate(t *testing.T) {
	w := New(0)
	if w.Add(1<<40+1, 2) || w.Len() != 0 {
		t.Error(w.Len())
	}
}

// The chapter's example 3.
func TestExampleTwice(t *testing.T) {
	w := New(0)
	if !w.Add(7, 1) || w.Add(7, 1) || !w.Cancel(1) || !w.Add(9, 1) {
		t.Error("otherwise")
	}
	if got := w.Go(20); !slices.Equal(got, []api.Fired{{At: 9, Id: 1}}) {
		t.Error(got)
	}
}
