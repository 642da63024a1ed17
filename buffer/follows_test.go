package buffer

import (
	"math/rand/v2"
	"testing"

	"conduit/api"
)

// call is one call of a row: a message put, a tick, or all flushed.
type call struct {
	kind int // 0: Put, 1: Tick, 2: Flush
	wait int64
}

// goneThrough does a row of calls, with a last Flush behind it, and tells what was put and what went on.
func goneThrough(t testing.TB, a, b int64, row []call, msg func(int) api.Msg) (put, went []api.Msg) {
	t.Helper()
	var st api.Buffer
	var out []api.Msg
	now := int64(0)
	for i, c := range row {
		now += c.wait
		switch c.kind {
		case 0:
			m := msg(i)
			put = append(put, m)
			st, out = putAsSaid(t, st, a, now, m)
		case 1:
			st, out = tickAsSaid(t, st, b, now)
		default:
			st, out = flushAsSaid(t, st)
		}
		went = append(went, out...)
		if !fit(st, a) {
			t.Fatalf("a %d, b %d, %v: behind the one at %d %s is not fit", a, b, row, i, show(st))
		}
	}
	_, out = flushAsSaid(t, st)
	return put, append(went, out...)
}

// nothingLost holds a row against P16.5.
func nothingLost(t testing.TB, a, b int64, row []call, msg func(int) api.Msg) {
	t.Helper()
	if put, went := goneThrough(t, a, b, row, msg); !sameMsgs(put, went) {
		t.Fatalf("a %d, b %d, %v: %v were put, %v went on", a, b, row, idsOf(put), idsOf(went))
	}
}

func numbered(i int) api.Msg { return plain(int64(i)) }

// P16.5: short rows, all of them.
func TestNothingLostSmall(t *testing.T) {
	const kinds, waits = 3, 2
	for long := range 6 {
		rows := 1
		for range long {
			rows *= kinds * waits
		}
		for n := range rows {
			var row []call
			for range long {
				row = append(row, call{n % kinds, int64(n / kinds % waits)})
				n /= kinds * waits
			}
			for a := int64(1); a < 4; a++ {
				for b := range int64(3) {
					nothingLost(t, a, b, row, numbered)
				}
			}
		}
	}
}

func randomRow(r *rand.Rand) (row []call) {
	for range r.IntN(50) {
		row = append(row, call{pick(r, 0, 0, 0, 1, 1, r.IntN(3)), r.Int64N(4)})
	}
	return row
}

// P16.5: any rows, of any messages, the same one twice too.
func TestNothingLostRandom(t *testing.T) {
	r := newRandom(3)
	for range 5000 {
		twice := randomMsg(r)
		nothingLost(t, randomMany(r), r.Int64N(12), randomRow(r), func(i int) api.Msg {
			if i%5 == 0 {
				return twice
			}
			return randomMsg(r)
		})
	}
}

// heldSince is the ticks at which what is held was put.
func heldSince(held []int64, out, more int, now int64) []int64 {
	for range more {
		held = append(held, now)
	}
	return held[out:]
}

// noLonger holds P16.6 at each tick, with puts of them ahead of Tick or behind it.
func noLonger(t *testing.T, r *rand.Rand, a, b int64, behind bool) (byTime, byNumber int) {
	t.Helper()
	var st api.Buffer
	var held []int64
	for now := range int64(60) {
		puts := r.IntN(3) * r.IntN(2)
		for _, ticked := range []bool{behind, !behind} {
			var out []api.Msg
			if ticked {
				st, out = Tick(st, b, now)
				held = heldSince(held, len(out), 0, now)
				byTime += len(out)
				if len(held) > 0 && b > 0 && now-held[0] >= b {
					t.Fatalf("a %d, b %d, at %d: one is held since %d", a, b, now, held[0])
				}
				continue
			}
			for range puts {
				st, out = Put(st, a, now, plain(now))
				held = heldSince(held, len(out), 1, now)
				byNumber += len(out)
				if int64(len(st.Msgs)) >= a || len(st.Msgs) != len(held) {
					t.Fatalf("a %d, b %d, at %d: %d are held", a, b, now, len(st.Msgs))
				}
			}
		}
	}
	return byTime, byNumber
}

// P16.6: any numbers, with Tick at each tick.
func TestNoLonger(t *testing.T) {
	r := newRandom(4)
	byTime, byNumber := 0, 0
	for i := range 3000 {
		x, y := noLonger(t, r, randomMany(r), r.Int64N(14), i%2 == 0)
		byTime += x
		byNumber += y
	}
	if byTime < 1000 || byNumber < 1000 {
		t.Errorf("%d went on by time, %d by their number", byTime, byNumber)
	}
}

// P16.6: where time plays no part they are held for ever, but never a of them.
func TestHeldForEver(t *testing.T) {
	st, _ := Put(api.Buffer{}, 3, 0, plain(1))
	for now := range int64(1000) {
		var out []api.Msg
		if st, out = Tick(st, 0, now*now*now); len(out) != 0 {
			t.Fatal(now, idsOf(out))
		}
	}
	for i := range 1000 {
		if st, _ = Put(st, 3, 1000, numbered(i)); len(st.Msgs) > 2 {
			t.Fatal(show(st))
		}
	}
}

// P16.7: nothing goes on at any tick ahead of Next's, all at it; where there is none, at no tick.
func TestNextIsFirst(t *testing.T) {
	r := newRandom(5)
	none, some := 0, 0
	for range 5000 {
		st := randomState(r, randomMany(r))
		if len(st.Msgs) > 0 {
			st.Since = r.Int64N(20)
		}
		b := r.Int64N(20)
		first := int64(-1)
		for now := int64(0); now < 60 && first < 0; now++ {
			if _, out := Tick(st, b, now); len(out) > 0 {
				first = now
			}
		}
		at, ok := Next(st, b)
		if ok != (first >= 0) || ok && at != first || !ok && at != 0 {
			t.Fatalf("%s, b %d: %d, %v, not %d", show(st), b, at, ok, first)
		}
		if ok {
			some++
		} else {
			none++
		}
	}
	if none < 500 || some < 500 {
		t.Errorf("%d that never go on, %d that do", none, some)
	}
}
