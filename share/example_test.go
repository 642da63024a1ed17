package share

import (
	"slices"
	"testing"
)

// The chapter's example 1.
func TestExampleSend(t *testing.T) {
	h := New()
	for _, id := range []int{1, 2, 3} {
		if !h.Join("$share/g/a/+", id) {
			t.Error(id)
		}
	}
	if !h.Join("a/#", 7) {
		t.Error(7)
	}
	sends := func(name string, want ...int) {
		t.Helper()
		if got := h.Send(name); !slices.Equal(got, want) {
			t.Errorf("%q: %v, not %v", name, got, want)
		}
	}
	sends("a/b", 7, 1)
	sends("a/b", 7, 2)
	if !h.Leave("$share/g/a/+", 3) {
		t.Error("not left")
	}
	sends("a/b", 7, 1)
	sends("a", 7)
}

// The chapter's example 2.
func TestExampleSplit(t *testing.T) {
	for _, x := range []struct {
		text, name, filter string
		ok                 bool
	}{
		{"$share/g/a/#", "g", "a/#", true},
		{"$share/g", "", "", false},
		{"$share//a", "", "", false},
		{"$shared/x", "", "$shared/x", true},
		{"$share/g/", "", "", false},
	} {
		if name, filter, ok := Split(x.text); name != x.name || filter != x.filter || ok != x.ok {
			t.Errorf("%q: %q, %q, %v", x.text, name, filter, ok)
		}
	}
}

// The chapter's example 3.
func TestExampleKept(t *testing.T) {
	h := New()
	if !h.Keep(msg("x/1", 5)) || !h.Keep(msg("x/2", 6)) || !h.Keep(msg("x/1", 7)) {
		t.Error("not kept")
	}
	if l := h.Kept("x/+"); len(l) != 2 || l[0].Body.Int != 7 || l[1].Body.Int != 6 {
		t.Error(showMsgs(l))
	}
	if !h.Keep(without("x/1")) || h.Keep(without("x/1")) {
		t.Error("not taken away, or twice")
	}
}
