package buffer

import (
	"testing"

	"conduit/api"
)

// P16.2, P16.4: at Since + b they go on, and one tick ahead of it they don't; b of 0 and a state that holds nothing never let something go on.
func TestTickTurns(t *testing.T) {
	for i, c := range []struct {
		st   api.Buffer
		b    int64
		now  int64
		goes bool
		next int64
		ok   bool
	}{
		{api.Buffer{}, 0, 0, false, 0, false},
		{api.Buffer{}, 0, api.MaxTick, false, 0, false},
		{api.Buffer{}, 1, 0, false, 0, false},
		{api.Buffer{}, 1, 1, false, 0, false},
		{api.Buffer{}, 10, api.MaxTick, false, 0, false},
		{of(0, 1), 0, 0, false, 0, false},
		{of(0, 1), 0, api.MaxTick, false, 0, false},
		{of(5, 1), 0, 5, false, 0, false},
		{of(0, 1), 1, 0, false, 1, true},
		{of(0, 1), 1, 1, true, 1, true},
		{of(0, 1), 1, 2, true, 1, true},
		{of(5, 1, 2), 10, 0, false, 15, true},
		{of(5, 1, 2), 10, 5, false, 15, true},
		{of(5, 1, 2), 10, 14, false, 15, true},
		{of(5, 1, 2), 10, 15, true, 15, true},
		{of(5, 1, 2), 10, 16, true, 15, true},
		{of(5, 1, 2), 10, api.MaxTick, true, 15, true},
		{of(5, 2, 1), mostTicks, mostTicks + 4, false, mostTicks + 5, true},
		{of(5, 2, 1), mostTicks, mostTicks + 5, true, mostTicks + 5, true},
		{of(api.MaxTick, 1), 1, api.MaxTick, false, api.MaxTick + 1, true},
		{of(api.MaxTick, 1), mostTicks, api.MaxTick, false, api.MaxTick + mostTicks, true},
		{of(api.MaxTick-1, 1), 1, api.MaxTick, true, api.MaxTick, true},
	} {
		got, out := tickAsSaid(t, c.st, c.b, c.now)
		if goes := len(out) > 0; goes != c.goes || len(out)+len(got.Msgs) != len(c.st.Msgs) {
			t.Errorf("%d: %s, %v", i, show(got), idsOf(out))
		}
		if at, ok := nextAsSaid(t, c.st, c.b); at != c.next || ok != c.ok {
			t.Errorf("%d: next %d, %v", i, at, ok)
		}
	}
}

// P16.2, P16.3, P16.4: small states, all of them.
func TestTickSmall(t *testing.T) {
	for held := range 4 {
		for since := range int64(5) {
			st := api.Buffer{Msgs: upTo(held)}
			if held > 0 {
				st.Since = since
			}
			flushAsSaid(t, st)
			for b := range int64(6) {
				nextAsSaid(t, st, b)
				for now := range int64(12) {
					tickAsSaid(t, st, b, now)
				}
			}
		}
	}
}

// P16.2, P16.3, P16.4: any messages, with something in each field.
func TestTickRandom(t *testing.T) {
	r := newRandom(2)
	none, stayed, at, behind := 0, 0, 0, 0
	for range 50000 {
		st := randomState(r, randomMany(r))
		b := randomTicks(r)
		now := randomNow(r, st, b)
		flushAsSaid(t, st)
		nextAsSaid(t, st, b)
		_, out := tickAsSaid(t, st, b, now)
		switch {
		case len(st.Msgs) == 0 || b == 0:
			none++
		case len(out) == 0:
			stayed++
		case now == st.Since+b:
			at++
		default:
			behind++
		}
	}
	if min(none, stayed, at, behind) < 1000 {
		t.Errorf("%d could never go on, %d stayed, %d went on at their tick, %d behind it", none, stayed, at, behind)
	}
}

// P16.3: all go on in their order, one or as many as may be held, whatever their tick; of none none.
func TestFlushTurns(t *testing.T) {
	for i, st := range []api.Buffer{
		{}, {Msgs: []api.Msg{}}, of(0, 1), of(api.MaxTick, 1), of(5, 1, 2), of(5, 2, 1), of(5, 1, 1),
		{Msgs: upTo(mostHeld - 1), Since: 7},
	} {
		if got, out := flushAsSaid(t, st); len(got.Msgs) != 0 || got.Since != 0 || len(out) != len(st.Msgs) {
			t.Errorf("%d: %s, %v", i, show(got), idsOf(out))
		}
	}
	if _, out := Flush(of(5, 3, 1, 2)); !sameMsgs(out, plains(3, 1, 2)) {
		t.Error(idsOf(out))
	}
}
