package share

import (
	"math"
	"slices"
	"testing"
)

// P30.2: what can't be subscribed to has no members, and the Leave of one is none.
func TestJoinWrong(t *testing.T) {
	p := newPair()
	for _, s := range wrongTexts() {
		if p.join(t, s, 1) || p.leave(t, s, 1) {
			t.Errorf("%.30q", s)
		}
	}
	for _, s := range someNames() {
		p.send(t, s)
	}
}

// P30.2: a number joins once under each text, any int; it leaves once.
func TestJoinOnce(t *testing.T) {
	p := newPair()
	texts := []string{"a", "a/#", "$share/g/a", "$share/g/a/#", "$share/h/a", "$share/g/$share/g/a"}
	ids := []int{0, 1, -1, math.MinInt, math.MaxInt}
	for _, s := range texts {
		for _, id := range ids {
			if p.leave(t, s, id) || !p.join(t, s, id) || p.join(t, s, id) {
				t.Errorf("%q, %d", s, id)
			}
		}
	}
	if got := p.send(t, "a"); !slices.Equal(got, []int{math.MinInt, -1, 0, 1, math.MaxInt, 0, 0, 0}) {
		t.Error(got)
	}
	for _, s := range texts {
		for _, id := range ids {
			if p.leave(t, s, 7) || !p.leave(t, s, id) || p.leave(t, s, id) {
				t.Errorf("%q, %d", s, id)
			}
		}
	}
	if got := p.send(t, "a"); len(got) != 0 {
		t.Error(got)
	}
}

// P30.2: groups of one name and unlike filters are two, and so are those of one filter and unlike names: none leaves where it has not joined.
func TestLeaveElsewhere(t *testing.T) {
	texts := []string{"a", "+", "$share/g/a", "$share/g/+", "$share/h/a", "$share/gh/a"}
	for _, s := range texts {
		p := with(t, s, 5)
		for _, other := range texts {
			if p.leave(t, other, 5) != (s == other) {
				t.Errorf("%q, %q", s, other)
			}
		}
		if got := p.send(t, "a"); len(got) != 0 {
			t.Errorf("%q: %v", s, got)
		}
	}
}

// P30.2: a group has at most 256 members, each group for itself; where it is full, there is room again behind one that has left.
func TestJoinFull(t *testing.T) {
	p := newPair()
	texts := []string{"$share/g/a", "$share/g/+", "$share/h/a"}
	for _, s := range texts {
		for id := range mostMembers {
			if !p.join(t, s, id) {
				t.Fatalf("%q, %d", s, id)
			}
		}
		if p.join(t, s, mostMembers) || p.join(t, s, -1) || p.join(t, s, 3) {
			t.Fatalf("%q: one too many", s)
		}
	}
	for i := range 2 * mostMembers {
		if got := p.send(t, "a"); !slices.Equal(got, []int{i % mostMembers, i % mostMembers, i % mostMembers}) {
			t.Fatal(i, got)
		}
	}
	for _, s := range texts {
		if !p.leave(t, s, 3) || !p.join(t, s, -1) || p.join(t, s, 3) {
			t.Fatalf("%q: not one for another", s)
		}
	}
	for range 2 * mostMembers {
		p.send(t, "a")
	}
}

// P30.2: what is not shared is no group, and has any number of members.
func TestJoinAlone(t *testing.T) {
	p := newPair()
	for id := range 3 * mostMembers {
		if !p.join(t, "a/#", -id) {
			t.Fatal(id)
		}
	}
	if got := p.send(t, "a"); len(got) != 3*mostMembers || !slices.IsSorted(got) {
		t.Error(got)
	}
}
