package replay

import (
	"slices"
	"testing"

	"conduit/api"
	"conduit/check"
	"conduit/journal"
)

// P28.5: played again over the same plan, a run goes the same way. P28.6: what is read is what was written down.
func TestThereAndBack(t *testing.T) {
	r := newRandom(6)
	for range 1000 {
		p, l := randomPlan(t, r), randomSteps(t, r)
		want := told{text: check.Write(p), steps: l, events: chapterEvents(p, l)}
		filled := slices.Clone(l)
		for i := range filled {
			filled[i] = filledUp(filled[i])
		}
		b, e := Record(p, filled)
		if e != api.OK {
			t.Fatal(e)
		}
		if x := toldOf(b); !sameTold(x, want) {
			t.Fatalf("%v, not %v", x, want)
		}
		if d, e := Play(p, b); d != (api.Diff{}) || e != api.OK {
			t.Fatalf("%s%v: %v, %v", check.Write(p), l, d, e)
		}
	}
}

// begins tells whether x is a beginning of what y is: of its steps, of the last one perhaps a beginning of its events.
func begins(x, y told) bool {
	n := len(x.steps)
	if x.text != y.text || len(x.events) != n || n > len(y.steps) || !slices.EqualFunc(x.steps, y.steps[:n], sameStep) {
		return false
	}
	for i, events := range x.events {
		has := y.events[i]
		if len(events) > len(has) || i < n-1 && len(events) < len(has) || !sameEvents(events, has[:len(events)]) {
			return false
		}
	}
	return true
}

// P28.7: cut off anywhere behind the first record.
func TestCut(t *testing.T) {
	r := newRandom(7)
	for range 60 {
		p, l := randomPlan(t, r), randomSteps(t, r)
		b, e := Record(p, l)
		if e != api.OK {
			t.Fatal(e)
		}
		// Each cut takes as long as the bytes are many.
		if len(b) > 3000 {
			continue
		}
		first := len(journalOf(t, planRecord(check.Write(p))))
		whole, last := toldOf(b), 0
		for cut := range b {
			x := toldOf(b[:cut])
			if cut < first {
				if !sameTold(x, told{e: api.ErrForm}) {
					t.Fatalf("cut off at %d: %v", cut, x)
				}
				continue
			}
			count := len(x.steps)
			for _, events := range x.events {
				count += len(events)
			}
			records, _, _ := journal.Open(b[:cut])
			if x.e != api.OK || !begins(x, whole) || count < last || count != len(records)-1 {
				t.Fatalf("cut off at %d: %v", cut, x)
			}
			last = count
			if r.IntN(12) > 0 {
				continue
			}
			d, e := playAsSaid(t, p, b[:cut])
			if d.Is && d != (api.Diff{Is: true, Step: len(x.steps) - 1, Event: len(x.events[len(x.steps)-1])}) || e != api.OK {
				t.Fatalf("cut off at %d: %v", cut, d)
			}
		}
	}
}

// P28.8: with a step changed, a difference is told just if what happens is another thing: in the first step of which other events are told.
func TestChangedStep(t *testing.T) {
	r := newRandom(8)
	differ, same := 0, 0
	for range 1500 {
		p, l := randomPlan(t, r), randomSteps(t, r)
		if len(l) == 0 {
			continue
		}
		records, was := chapterRecords(p, l), chapterEvents(p, l)
		at := r.IntN(len(l))
		l[at] = randomStep(t, r)
		place := 1
		for i := range at {
			place += 1 + len(was[i])
		}
		records[place] = Step(l[at])
		d, e := Play(p, journalOf(t, records...))
		now := chapterEvents(p, l)
		first := 0
		for first < len(l) && sameEvents(now[first], was[first]) {
			first++
		}
		if e != api.OK || d.Is != (first < len(l)) || d.Is && d.Step != first {
			t.Fatalf("%s%v: %v, %v, not in step %d", check.Write(p), l, d, e, first)
		}
		if d.Is {
			differ++
		} else {
			same++
		}
	}
	if differ < 300 || same < 100 {
		t.Error(differ, same)
	}
}
