package timer

import (
	"cmp"
	"math"
	"math/rand/v2"
	"slices"
	"testing"

	"conduit/api"
)

func newRandom(seed uint64) *rand.Rand { return rand.New(rand.NewPCG(seed, 18)) }

func pick[T any](r *rand.Rand, l ...T) T { return l[r.IntN(len(l))] }

// model is the chapter's words on a plain list of timers, in the order in which they were added.
type model struct {
	now    int64
	timers []api.Fired
}

func newModel(now int64) model { return model{now: min(max(now, 0), api.MaxTick)} }

func (m *model) index(id int64) int {
	return slices.IndexFunc(m.timers, func(f api.Fired) bool { return f.Id == id })
}

func (m *model) add(at, id int64) bool {
	if at <= m.now {
		at = m.now + 1
	}
	if at > api.MaxTick || m.index(id) >= 0 {
		return false
	}
	m.timers = append(m.timers, api.Fired{At: at, Id: id})
	return true
}

func (m *model) cancel(id int64) bool {
	i := m.index(id)
	if i < 0 {
		return false
	}
	m.timers = slices.Delete(m.timers, i, i+1)
	return true
}

func (m *model) goTo(now int64) (fired []api.Fired) {
	now = min(now, api.MaxTick)
	if now <= m.now {
		return nil
	}
	m.now = now
	var rest []api.Fired
	for _, f := range m.timers {
		if f.At <= now {
			fired = append(fired, f)
		} else {
			rest = append(rest, f)
		}
	}
	m.timers = rest
	slices.SortStableFunc(fired, func(a, b api.Fired) int { return cmp.Compare(a.At, b.At) })
	return fired
}

func (m *model) next() (int64, bool) {
	if len(m.timers) == 0 {
		return 0, false
	}
	least := m.timers[0].At
	for _, f := range m.timers {
		least = min(least, f.At)
	}
	return least, true
}

// both is a wheel, of which each call is held against the model.
type both struct {
	t *testing.T
	w *Wheel
	m model
}

func newBoth(t *testing.T, now int64) *both {
	b := &both{t, New(now), newModel(now)}
	b.look()
	return b
}

// look holds what is told of a wheel, without anything being done, against the model.
func (b *both) look() {
	b.t.Helper()
	if b.w.Now() != b.m.now || b.w.Len() != len(b.m.timers) {
		b.t.Fatalf("Now %d, not %d; Len %d, not %d", b.w.Now(), b.m.now, b.w.Len(), len(b.m.timers))
	}
	b.next()
}

func (b *both) next() (int64, bool) {
	b.t.Helper()
	at, ok := b.w.Next()
	if wantAt, want := b.m.next(); at != wantAt || ok != want {
		b.t.Fatalf("at %d, of %v: Next: %d, %v, not %d, %v", b.m.now, b.m.timers, at, ok, wantAt, want)
	}
	return at, ok
}

func (b *both) add(at, id int64) bool {
	b.t.Helper()
	got, want := b.w.Add(at, id), b.m.add(at, id)
	if got != want {
		b.t.Fatalf("at %d, of %v: Add(%d, %d): %v", b.m.now, b.m.timers, at, id, got)
	}
	return got
}

func (b *both) cancel(id int64) bool {
	b.t.Helper()
	got, want := b.w.Cancel(id), b.m.cancel(id)
	if got != want {
		b.t.Fatalf("at %d, of %v: Cancel(%d): %v", b.m.now, b.m.timers, id, got)
	}
	return got
}

func (b *both) goTo(now int64) []api.Fired {
	b.t.Helper()
	from, waiting := b.m.now, slices.Clone(b.m.timers)
	got, want := b.w.Go(now), b.m.goTo(now)
	if !slices.Equal(got, want) {
		b.t.Fatalf("from %d, of %v: Go(%d): %v, not %v", from, waiting, now, got, want)
	}
	return got
}

// randomAhead is how far ahead something lies: of any size, up to a bound by its bits.
func randomAhead(r *rand.Rand, most int) int64 {
	n := int64(1) << r.IntN(most+1)
	return pick(r, n-1, n, n+1, r.Int64N(n)+1)
}

// randomTick is one of those at which a wheel may do something else: near now, far ahead, at the ends, beyond them.
func randomTick(r *rand.Rand, now int64, most int) int64 {
	switch r.IntN(12) {
	case 0:
		return now - randomAhead(r, 20)
	case 1:
		return pick(r, math.MinInt64, -1, 0, now, now+1)
	case 2:
		// The beginning of a slot.
		k := r.IntN(most + 1)
		return (now>>k + 1) << k
	}
	return now + randomAhead(r, most)
}

// ends are the ticks at the ends of what may be, and beyond them.
func ends() []int64 {
	return []int64{math.MinInt64, math.MinInt64 + 1, -api.MaxTick, -1, 0, 1, 2, api.MaxTick - 1, api.MaxTick, api.MaxTick + 1, 2 * api.MaxTick, 1 << 62, math.MaxInt64}
}

// randomCall does something with a wheel; the ticks lie up to 2 to the most ahead.
func (b *both) randomCall(r *rand.Rand, most int, ids int64) {
	b.t.Helper()
	switch r.IntN(10) {
	case 0, 1:
		b.goTo(randomTick(r, b.m.now, most))
	case 2:
		b.cancel(r.Int64N(ids))
	case 3:
		if len(b.m.timers) > 0 {
			b.cancel(pick(r, b.m.timers...).Id)
		}
	case 4:
		if at, ok := b.m.next(); ok {
			b.goTo(at - r.Int64N(2))
		}
	case 5:
		if len(b.m.timers) > 0 {
			b.add(pick(r, b.m.timers...).At, r.Int64N(ids))
		}
	default:
		b.add(randomTick(r, b.m.now, most), r.Int64N(ids))
	}
}

// filled is a wheel with many timers, many of them for one tick.
func filled(t *testing.T, r *rand.Rand, n int64, most int) *both {
	t.Helper()
	b := newBoth(t, randomStart(r, most))
	for id := range n {
		at := randomTick(r, b.m.now, most)
		if len(b.m.timers) > 0 && r.IntN(3) == 0 {
			at = pick(r, b.m.timers...).At
		}
		b.add(at, id)
	}
	return b
}

// randomStart is a tick with some way ahead of it.
func randomStart(r *rand.Rand, most int) int64 {
	return pick(r, 0, 1, 63, 64, 4095, r.Int64N(api.MaxTick), api.MaxTick-1<<most, api.MaxTick-r.Int64N(1<<most))
}
