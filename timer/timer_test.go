package timer

import (
	"math"
	"slices"
	"testing"

	"conduit/api"
)

// P18.1: a new wheel, of ticks that are none, too.
func TestNew(t *testing.T) {
	for _, now := range ends() {
		w, want := New(now), min(max(now, 0), api.MaxTick)
		at, ok := w.Next()
		if w.Now() != want || w.Len() != 0 || at != 0 || ok {
			t.Error(now, w.Now(), w.Len(), at, ok)
		}
		if got := New(now).Go(math.MaxInt64); len(got) != 0 {
			t.Error(now, got)
		}
	}
}

// P18.1: two wheels know nothing of each other.
func TestNewEach(t *testing.T) {
	v, w := New(0), New(0)
	if !v.Add(5, 1) || w.Len() != 0 || w.Cancel(1) || !w.Add(6, 1) || len(v.Go(9)) != 1 || w.Now() != 0 || w.Len() != 1 {
		t.Error(v.Len(), w.Len())
	}
}

// P18.2: the tick for which a timer waits, or that it can't be.
func TestAdd(t *testing.T) {
	for _, now := range []int64{0, 1, 62, 63, 64, 65, 4095, 1 << 30, api.MaxTick - 2, api.MaxTick - 1, api.MaxTick} {
		for _, at := range append(ends(), now-1, now, now+1, now+2, now+63, now+64, now+4096) {
			b := newBoth(t, now)
			want := max(at, now+1)
			if got := b.add(at, 7); got != (want <= api.MaxTick) {
				t.Error(now, at, got)
			} else if got {
				if next, _ := b.next(); next != want || b.w.Len() != 1 {
					t.Error(now, at, next, b.w.Len())
				}
			}
			b.look()
			b.goTo(want - 1)
			b.look()
			b.goTo(want)
			b.look()
		}
	}
}

// P18.2: a timer with the id of one that waits changes nothing, be it sooner, later or at the same tick.
func TestAddTwice(t *testing.T) {
	for _, at := range append(ends(), 99, 100, 101) {
		b := newBoth(t, 5)
		b.add(100, 1)
		if b.add(at, 1) {
			t.Error(at)
		}
		b.look()
		if got := b.goTo(api.MaxTick); !slices.Equal(got, []api.Fired{{At: 100, Id: 1}}) {
			t.Error(at, got)
		}
	}
}

// P18.2: ids are any numbers, and what has fired waits no more.
func TestAddIds(t *testing.T) {
	b := newBoth(t, 0)
	for _, id := range ends() {
		if !b.add(9, id) || b.add(10, id) {
			t.Error(id)
		}
	}
	if got := b.goTo(9); len(got) != len(ends()) {
		t.Error(got)
	}
	for _, id := range ends() {
		if !b.add(9, id) {
			t.Error(id)
		}
	}
	if got := b.goTo(10); len(got) != len(ends()) || got[0].At != 10 {
		t.Error(got)
	}
}

// P18.3: what is cancelled waits no more, and can be added again.
func TestCancel(t *testing.T) {
	b := newBoth(t, 0)
	b.add(70, 1)
	b.add(70, 2)
	b.add(5000, 3)
	for _, id := range ends() {
		if id != 1 && id != 2 && b.cancel(id) {
			t.Error(id)
		}
	}
	b.look()
	if !b.cancel(1) || b.cancel(1) {
		t.Error("not once")
	}
	b.look()
	if !b.add(70, 1) {
		t.Error("not added again")
	}
	b.goTo(65)
	if !b.cancel(3) {
		t.Error("not cancelled")
	}
	b.look()
	// It was added again behind the other one.
	if got := b.goTo(6000); !slices.Equal(got, []api.Fired{{At: 70, Id: 2}, {At: 70, Id: 1}}) {
		t.Error(got)
	}
	if b.cancel(1) || b.cancel(2) || b.cancel(3) {
		t.Error("has fired")
	}
}

// P18.3: whichever of a slot's timers leave, at whichever level, the others stay as they were.
func TestCancelAny(t *testing.T) {
	for _, at := range []int64{3, 64, 100, 4096, 5000, 1 << 20, api.MaxTick} {
		for mask := range 32 {
			b := newBoth(t, 0)
			for id := range int64(5) {
				b.add(at, id)
			}
			for id := range int64(5) {
				if mask>>id&1 == 1 {
					b.cancel(id)
					b.look()
				}
			}
			b.add(at, 5)
			b.goTo(at - 1)
			b.look()
			b.goTo(at)
			b.look()
		}
	}
}

// P18.4: now or less: nothing is done.
func TestGoNowhere(t *testing.T) {
	b := newBoth(t, 100)
	b.add(101, 1)
	for _, now := range append(ends(), 99, 100) {
		if now <= 100 && len(b.goTo(now)) != 0 {
			t.Error(now)
		}
		b.look()
	}
	if len(b.goTo(101)) != 1 {
		t.Error("not fired")
	}
}

// P18.4: above MaxTick counts as that; behind it nothing can be added any more.
func TestGoToTheEnd(t *testing.T) {
	for _, now := range []int64{api.MaxTick, api.MaxTick + 1, 2 * api.MaxTick, math.MaxInt64} {
		b := newBoth(t, 3)
		b.add(api.MaxTick, 2)
		b.add(api.MaxTick-1, 1)
		b.add(api.MaxTick, 3)
		if got := b.goTo(now); !slices.Equal(got, []api.Fired{{At: api.MaxTick - 1, Id: 1}, {At: api.MaxTick, Id: 2}, {At: api.MaxTick, Id: 3}}) {
			t.Error(now, got)
		}
		if b.w.Now() != api.MaxTick || b.add(5, 1) || b.add(api.MaxTick, 1) || len(b.goTo(math.MaxInt64)) != 0 {
			t.Error(now, b.w.Now())
		}
		b.look()
	}
}

// P18.4: those of one tick fire in the order in which they were added, even if some came from far and others from near.
func TestOrderOfOneTick(t *testing.T) {
	for _, at := range []int64{200, 4096, 4097, 1<<18 + 3, 1<<36 + 1<<30 + 64, api.MaxTick - 1, api.MaxTick} {
		b := newBoth(t, 0)
		id := int64(100)
		for b.m.now < at-1 {
			b.add(at, id)
			b.add(at-1, -id)
			b.look()
			id--
			b.goTo(at - (at-b.m.now)/2)
		}
		b.add(at, id)
		b.add(0, -1)
		got := b.goTo(at)
		if !slices.IsSortedFunc(got, func(x, y api.Fired) int { return int(y.Id - x.Id) }) {
			t.Error(at, got)
		}
	}
}

// P18.4: all ticks up to now, and none behind it.
func TestGoFires(t *testing.T) {
	for _, now := range []int64{1, 2, 63, 64, 65, 127, 128, 4095, 4096, 4097} {
		b := newBoth(t, 0)
		for id := range int64(4200) {
			b.w.Add(4200-id, id)
			b.m.timers = append(b.m.timers, api.Fired{At: 4200 - id, Id: id})
		}
		if got := b.goTo(now); len(got) != int(now) || got[now-1].At != now {
			t.Error(now, len(got))
		}
		b.look()
		b.goTo(4200)
		b.look()
	}
}

// P18.5: the least tick, as timers come, leave and fire.
func TestNext(t *testing.T) {
	b := newBoth(t, 0)
	for i, at := range []int64{api.MaxTick, 1 << 39, 1<<39 + 5, 1<<39 - 1, 70000, 69999, 70001, 4096, 64, 63, 1} {
		b.add(at, int64(i))
		b.look()
	}
	for range 11 {
		least, _ := b.next()
		b.cancel(b.m.timers[slices.IndexFunc(b.m.timers, func(f api.Fired) bool { return f.At == least })].Id)
		b.look()
	}
	if at, ok := b.next(); at != 0 || ok {
		t.Error(at, ok)
	}
}

// P18.5: Next is asked of a far slot in any order of its timers, and changes nothing in it.
func TestNextOfFarSlot(t *testing.T) {
	r := newRandom(1)
	for range 2000 {
		b := newBoth(t, 0)
		for id := range int64(2 + r.IntN(8)) {
			b.add(1<<30+r.Int64N(5), id)
		}
		for range r.IntN(12) {
			switch r.IntN(4) {
			case 0:
				b.cancel(r.Int64N(10))
			case 1:
				b.add(1<<30+r.Int64N(5), r.Int64N(10))
			default:
				b.next()
			}
		}
		b.look()
		b.goTo(1<<30 + r.Int64N(3))
		b.look()
		b.goTo(api.MaxTick)
	}
}

// P18.1 to P18.5, of rows of calls against the chapter's words on a list.
func TestAgainstList(t *testing.T) {
	r := newRandom(2)
	for k := range 3000 {
		most := 3 + k%38
		b := newBoth(t, randomStart(r, most))
		for range 120 {
			b.randomCall(r, most, 40)
			if r.IntN(3) > 0 {
				b.look()
			}
		}
		b.goTo(api.MaxTick)
		b.look()
	}
}
