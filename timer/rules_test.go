package timer

import (
	"slices"
	"testing"

	"conduit/api"
)

// A wheel that New did not give answers nothing, and stays so.
func TestNotMade(t *testing.T) {
	for name, w := range map[string]*Wheel{"nil": nil, "plain": {}} {
		for range 2 {
			for _, n := range ends() {
				if w.Add(n, 1) || w.Add(5, n) || w.Cancel(n) || len(w.Go(n)) != 0 || w.Now() != 0 || w.Len() != 0 {
					t.Error(name, n)
				}
				if at, ok := w.Next(); at != 0 || ok {
					t.Error(name, at, ok)
				}
			}
		}
	}
}

// 0.6: what is refused has changed nothing, wherever the timers lie.
func TestRefused(t *testing.T) {
	r := newRandom(7)
	for k := range 300 {
		most := 3 + k%38
		b := filled(t, r, 40, most)
		for range 30 {
			if len(b.m.timers) > 0 {
				b.add(randomTick(r, b.m.now, most), pick(r, b.m.timers...).Id)
			}
			b.add(api.MaxTick+1+r.Int64N(1<<50), 1000)
			b.cancel(1000 + r.Int64N(5))
			b.goTo(b.m.now - r.Int64N(5))
			b.look()
		}
		b.goTo(api.MaxTick)
	}
}

// 0.3, 0.4: what is told as fired has memory of its own, spare room too: no later call changes it, and what is written there is seen nowhere else.
func TestFiredIsNew(t *testing.T) {
	r := newRandom(8)
	for k := range 300 {
		most := 3 + k%38
		b := filled(t, r, 60, most)
		var lists, were [][]api.Fired
		for range 8 {
			l := b.goTo(randomTick(r, b.m.now, most))
			lists, were = append(lists, l), append(were, slices.Clone(l))
			b.add(randomTick(r, b.m.now, most), 1000+r.Int64N(9))
		}
		for i, l := range lists {
			if !slices.Equal(l, were[i]) {
				t.Fatalf("%v, not %v", l, were[i])
			}
			spoil(l)
		}
		b.look()
		b.goTo(api.MaxTick)
	}
}

// spoil puts something else into a list, spare room too.
func spoil(l []api.Fired) {
	for i := range l[:cap(l)] {
		l[:cap(l)][i] = api.Fired{At: -1, Id: -1}
	}
}

// 0.3: the same calls on another wheel come to the same, whatever was looked at between.
func TestSameAgain(t *testing.T) {
	for seed := range uint64(200) {
		r, asking := newRandom(100+seed), newRandom(seed)
		v, w := New(0), New(0)
		for range 200 {
			tick, id := randomTick(r, v.Now(), 34), r.Int64N(40)
			switch r.IntN(5) {
			case 0:
				if x, y := v.Go(tick), w.Go(tick); !slices.Equal(x, y) {
					t.Fatal(x, y)
				}
			case 1:
				if v.Cancel(id) != w.Cancel(id) {
					t.Fatal(id)
				}
			default:
				if v.Add(tick, id) != w.Add(tick, id) {
					t.Fatal(tick, id)
				}
			}
			for range asking.IntN(3) {
				w.Next()
			}
		}
	}
}

// It is fast: were all ticks or all timers gone through with each call, this would last for hours.
func TestFast(t *testing.T) {
	const many = 200000
	w := New(0)
	for _, id := range newRandom(10).Perm(many) {
		w.Add(1<<39+int64(id), int64(id))
		w.Next()
	}
	for now := range int64(many) {
		w.Go(now)
		w.Next()
	}
	for id := range int64(many) / 2 {
		if at, ok := w.Next(); !ok || at != 1<<39+id || !w.Cancel(id) {
			t.Fatal(id, at, ok)
		}
	}
	if got := w.Go(api.MaxTick); len(got) != many/2 || got[0].At != 1<<39+many/2 {
		t.Fatal(len(got))
	}
}

// It is fast where all wait for one tick, too, and where they leave in the order in which they came.
func TestFastOneTick(t *testing.T) {
	const many = 200000
	for _, width := range []int64{1, many} {
		for _, begin := range []int64{5, 1 << 39} {
			w := New(0)
			for id := range int64(many) {
				w.Add(begin+id*width/many, id)
			}
			for id := range int64(many) {
				if at, ok := w.Next(); !ok || at != begin+id*width/many || !w.Cancel(id) {
					t.Fatal(id, at, ok)
				}
			}
		}
	}
}

// FuzzCalls looks for rows of calls of which something else comes than the chapter says.
func FuzzCalls(f *testing.F) {
	f.Add(int64(0), []byte{0, 5, 1, 0, 3, 2, 2, 4, 0})
	f.Add(api.MaxTick-4096, []byte{0, 70, 1, 3, 12, 2, 2, 64, 0, 1, 0, 1})
	r := newRandom(9)
	for range 30 {
		b := make([]byte, 60)
		for i := range b {
			b[i] = byte(r.IntN(256))
		}
		f.Add(r.Int64N(api.MaxTick), b)
	}
	f.Fuzz(func(t *testing.T, now int64, l []byte) {
		b := newBoth(t, now)
		for ; len(l) >= 3; l = l[3:] {
			near, id := int64(int8(l[1])), int64(l[2]%16)
			far := b.m.now + near<<(l[2]/8)
			switch l[0] % 6 {
			case 0:
				b.add(b.m.now+near, id)
			case 1:
				b.cancel(id)
			case 2:
				b.goTo(b.m.now + near)
			case 3:
				b.add(far, id)
			case 4:
				b.goTo(far)
			default:
				b.look()
			}
		}
		b.goTo(api.MaxTick)
		b.look()
	})
}
