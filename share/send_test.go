package share

import (
	"slices"
	"strconv"
	"testing"
)

// P30.3: to none, of what is no topic's name, and no turn has passed.
func TestSendWrong(t *testing.T) {
	p := with(t, "#", 1)
	p.joinAll(t, "$share/g/#", 1, 2, 3)
	for _, s := range []string{"", "+", "#", "a/+", "a/#", "\x00", "\xff", long("a", mostBytes+1)} {
		if got := p.send(t, s); len(got) != 0 {
			t.Errorf("%.30q: %v", s, got)
		}
	}
	if got := p.send(t, "a"); !slices.Equal(got, []int{1, 1}) {
		t.Error(got)
	}
}

// P30.3: those under filters that are not shared rise and stand once each, whatever they joined, and in which order; those of groups come behind them, as often as they have the turn.
func TestSendAlone(t *testing.T) {
	p := newPair()
	for _, id := range []int{9, -3, 5, 0} {
		p.joinAll(t, "a/+", id)
		p.joinAll(t, "#", id-1)
		p.joinAll(t, "a/b", id)
	}
	p.joinAll(t, "$share/g/a/b", 4)
	p.joinAll(t, "$share/h/#", 4)
	if got := p.send(t, "a/b"); !slices.Equal(got, []int{-4, -3, -1, 0, 4, 5, 8, 9, 4, 4}) {
		t.Error(got)
	}
	if got := p.send(t, "b"); !slices.Equal(got, []int{-4, -1, 4, 8, 4}) {
		t.Error(got)
	}
	if got := p.send(t, "$s"); len(got) != 0 {
		t.Error(got)
	}
}

// P30.3: groups stand in the order of the whole of what is subscribed to, not of their names, nor of when they came.
func TestSendOrder(t *testing.T) {
	inOrder := []string{"$share/ /#", "$share/G/#", "$share/g /a", "$share/g!/a", "$share/g!/a/b", "$share/g/#", "$share/g/+/b", "$share/g/a/#", "$share/g/a/b", "$share/g0/#", "$share/gg/#", "$share/\u00e4/#", "$share/\U0001f600/#"}
	want := []int{0, 1, 4, 5, 6, 7, 8, 9, 10, 11, 12}
	r := newRandom(1)
	for range 50 {
		p := newPair()
		for _, i := range r.Perm(len(inOrder)) {
			p.joinAll(t, inOrder[i], i)
		}
		if got := p.send(t, "a/b"); !slices.Equal(got, want) {
			t.Fatal(got)
		}
	}
}

// P30.3: each in the order in which they joined, whatever their numbers are; one that joins is the last one, and has its turn when all others had theirs.
func TestTurns(t *testing.T) {
	p := with(t, "$share/g/a", 5, 1, 9)
	p.sends(t, "a", 5, 1, 9, 5)
	p.joinAll(t, "$share/g/a", 7)
	p.sends(t, "a", 1, 9, 7, 5, 1, 9)
	p.joinAll(t, "$share/g/a", 2)
	p.sends(t, "a", 7, 2, 5)
	// Behind the last one it is the first one's turn, and stays so when another one joins at the end.
	q := with(t, "$share/g/a", 1, 2)
	q.sends(t, "a", 1, 2)
	q.joinAll(t, "$share/g/a", 3)
	q.sends(t, "a", 1, 2, 3, 1)
}

// P30.3: a turn passes for those groups only that have the topic.
func TestTurnsApart(t *testing.T) {
	p := newPair()
	for _, s := range []string{"$share/g/a", "$share/g/+", "$share/h/b"} {
		p.joinAll(t, s, 1, 2, 3)
	}
	for _, x := range []struct {
		name string
		want []int
	}{{"a", []int{1, 1}}, {"b", []int{2, 1}}, {"c", []int{3}}, {"a/b", nil}, {"a", []int{1, 2}}, {"b", []int{2, 2}}} {
		if got := p.send(t, x.name); !slices.Equal(got, x.want) {
			t.Errorf("%q: %v, not %v", x.name, got, x.want)
		}
	}
}

// P30.3: of each member that leaves, at each turn: the turn stays with whose it was, or is the next one's.
func TestTurnsLeft(t *testing.T) {
	for many := 2; many < 6; many++ {
		for turn := range 2 * many {
			for gone := range many {
				p := newPair()
				for id := range many {
					p.joinAll(t, "$share/g/a", id)
				}
				for range turn {
					p.send(t, "a")
				}
				if !p.leave(t, "$share/g/a", gone) {
					t.Fatal(many, turn, gone)
				}
				next := turn % many
				for range 2 * many {
					if next == gone {
						next = (next + 1) % many
					}
					p.sends(t, "a", next)
					next = (next + 1) % many
				}
				p.joinAll(t, "$share/g/a", gone)
				for range 2 * many {
					p.send(t, "a")
				}
			}
		}
	}
}

// P30.3: one that left and joined again is the last one; a group that all have left begins anew.
func TestTurnsAnew(t *testing.T) {
	p := with(t, "$share/g/a", 1, 2, 3)
	p.leave(t, "$share/g/a", 1)
	p.joinAll(t, "$share/g/a", 1)
	p.sends(t, "a", 2, 3, 1, 2)
	for _, id := range []int{3, 2, 1} {
		if !p.leave(t, "$share/g/a", id) {
			t.Error(id)
		}
	}
	if got := p.send(t, "a"); len(got) != 0 {
		t.Error(got)
	}
	p.joinAll(t, "$share/g/a", 3, 1)
	p.sends(t, "a", 3, 1, 3)
}

// P30.2, P30.3, of rows of calls against the chapter's words on lists.
func TestAgainstLists(t *testing.T) {
	r := newRandom(2)
	for range 400 {
		p, texts := newPair(), fewTexts(r)
		few := 1 + r.IntN(6)
		for range 120 {
			text, id := pick(r, texts...), r.IntN(few)-1
			switch r.IntN(5) {
			case 0, 1:
				p.join(t, text, id)
			case 2:
				p.leave(t, text, id)
			default:
				p.send(t, pick(r, append(someNames(), "", "+")...))
			}
		}
	}
}

// P30.3, of groups near their bound, of which members come and go.
func TestGreatGroups(t *testing.T) {
	r := newRandom(3)
	p := newPair()
	texts := []string{"$share/g/a", "$share/g/#"}
	for range 6000 {
		text, id := pick(r, texts...), r.IntN(mostMembers+60)
		switch r.IntN(8) {
		case 0:
			p.leave(t, text, id)
		case 1, 2:
			p.send(t, pick(r, "a", "b"))
		default:
			p.join(t, text, id)
		}
	}
}

// P30.3, of many groups with members each.
func TestManyGroups(t *testing.T) {
	p := newPair()
	for i := range 300 {
		s := "$share/g" + strconv.Itoa(i) + "/" + pick(newRandom(uint64(i)), someFilters()...)
		p.joinAll(t, s, i, -i-1)
	}
	for range 3 {
		for _, name := range someNames() {
			p.send(t, name)
		}
	}
	for i := range 300 {
		s := "$share/g" + strconv.Itoa(i) + "/" + pick(newRandom(uint64(i)), someFilters()...)
		if !p.leave(t, s, i) || i%2 == 0 && !p.leave(t, s, -i-1) {
			t.Fatal(i)
		}
	}
	for range 3 {
		for _, name := range someNames() {
			p.send(t, name)
		}
	}
}
