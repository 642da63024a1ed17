package timer

import (
	"slices"
	"testing"

	"conduit/api"
)

// again is another wheel with the same timers.
func (b *both) again() *Wheel {
	w := New(b.m.now)
	for _, f := range b.m.timers {
		if !w.Add(f.At, f.Id) {
			b.t.Fatal(f)
		}
	}
	return w
}

// P18.6: in pieces or at once.
func TestInPieces(t *testing.T) {
	r := newRandom(3)
	for k := range 1500 {
		most := 3 + k%38
		b := filled(t, r, 60, most)
		for range 5 {
			w := b.again()
			last := randomTick(r, b.m.now, most)
			var pieces []api.Fired
			for range r.IntN(8) {
				between := min(randomTick(r, w.Now(), most), last)
				pieces = append(pieces, w.Go(between)...)
			}
			pieces = append(pieces, w.Go(last)...)
			whole := b.goTo(last)
			if !slices.Equal(pieces, whole) || w.Now() != b.w.Now() || w.Len() != b.w.Len() {
				t.Fatalf("Go(%d): %v, not %v", last, pieces, whole)
			}
		}
	}
}

// P18.6: tick by tick is the same as at once.
func TestTickByTick(t *testing.T) {
	r := newRandom(4)
	for range 20 {
		b := filled(t, r, 300, 13)
		w := b.again()
		var steps []api.Fired
		for now := b.m.now; now <= min(b.m.now+20000, api.MaxTick); now++ {
			for _, f := range w.Go(now) {
				if f.At != now {
					t.Fatalf("%v fired at %d", f, now)
				}
				steps = append(steps, f)
			}
		}
		if whole := b.goTo(b.m.now + 20000); !slices.Equal(steps, whole) {
			t.Fatalf("%v, not %v", steps, whole)
		}
	}
}

// P18.7: each that was added and not cancelled fires once, with its tick, when time has come there.
func TestEachOnce(t *testing.T) {
	r := newRandom(5)
	for k := range 1000 {
		most := 3 + k%38
		w := New(randomStart(r, most))
		due := map[int64]int64{}
		for id := range int64(150) {
			switch r.IntN(6) {
			case 0:
				from, now := w.Now(), randomTick(r, w.Now(), most)
				for _, f := range w.Go(now) {
					if at, ok := due[f.Id]; !ok || at != f.At || f.At > now || f.At <= from {
						t.Fatalf("from %d, Go(%d): %v", from, now, f)
					}
					delete(due, f.Id)
				}
			case 1:
				gone := r.Int64N(id + 1)
				if _, ok := due[gone]; w.Cancel(gone) != ok {
					t.Fatalf("Cancel(%d)", gone)
				}
				delete(due, gone)
			default:
				at := randomTick(r, w.Now(), most)
				if w.Add(at, id) {
					due[id] = max(at, w.Now()+1)
				}
			}
			for _, at := range due {
				if at <= w.Now() {
					t.Fatalf("at %d: what was due at %d has not fired", w.Now(), at)
				}
			}
			if w.Len() != len(due) {
				t.Fatalf("%d wait, not %d", w.Len(), len(due))
			}
		}
	}
}

// P18.8: ahead of Next nothing fires, at it something does, and each of that for it.
func TestNextFires(t *testing.T) {
	r := newRandom(6)
	for k := range 600 {
		b := filled(t, r, 80, 3+k%38)
		for {
			at, ok := b.w.Next()
			if !ok {
				break
			}
			if r.IntN(2) == 0 {
				if early := b.goTo(at - 1); len(early) != 0 {
					t.Fatalf("Go(%d) ahead of Next: %v", at-1, early)
				}
			}
			fired := b.goTo(at)
			if len(fired) == 0 || slices.ContainsFunc(fired, func(f api.Fired) bool { return f.At != at }) {
				t.Fatalf("Go(%d) at Next: %v", at, fired)
			}
		}
		if b.w.Len() != 0 {
			t.Fatal(b.w.Len())
		}
	}
}
