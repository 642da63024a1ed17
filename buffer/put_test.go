package buffer

import (
	"testing"

	"conduit/api"
)

// P16.1: Since is of the first one that is held, tick 0 too; all go on with the a-th one, and with a of 1 at once; what went on leaves nothing behind.
func TestPutTurns(t *testing.T) {
	for i, c := range []struct {
		st   api.Buffer
		a    int64
		now  int64
		id   int64
		want api.Buffer
		out  []api.Msg
	}{
		{api.Buffer{}, 1, 5, 1, api.Buffer{}, plains(1)},
		{api.Buffer{}, 1, 0, 1, api.Buffer{}, plains(1)},
		{api.Buffer{}, 2, 5, 1, of(5, 1), nil},
		{api.Buffer{}, 2, 0, 1, of(0, 1), nil},
		{api.Buffer{Msgs: []api.Msg{}}, 2, 5, 1, of(5, 1), nil},
		{api.Buffer{}, 2, api.MaxTick, 1, of(api.MaxTick, 1), nil},
		{api.Buffer{}, mostHeld, 5, 1, of(5, 1), nil},
		{of(5, 1), 2, 5, 2, api.Buffer{}, plains(1, 2)},
		{of(5, 1), 2, 9, 2, api.Buffer{}, plains(1, 2)},
		{of(5, 1), 3, 9, 2, of(5, 1, 2), nil},
		{of(0, 1), 3, 9, 2, of(0, 1, 2), nil},
		{of(9, 1), 3, 5, 2, of(9, 1, 2), nil},
		{of(9, 1), 3, 0, 2, of(9, 1, 2), nil},
		{of(5, 1, 2), 3, 9, 3, api.Buffer{}, plains(1, 2, 3)},
		{of(5, 2, 1), 3, 9, 0, api.Buffer{}, plains(2, 1, 0)},
		{of(5, 1, 2), 4, 9, 3, of(5, 1, 2, 3), nil},
		{of(5, 1), 3, 9, 1, of(5, 1, 1), nil},
		{of(5, 1, 1), 3, 9, 1, api.Buffer{}, plains(1, 1, 1)},
	} {
		if got, out := putAsSaid(t, c.st, c.a, c.now, plain(c.id)); !same(got, c.want) || !sameMsgs(out, c.out) {
			t.Errorf("%d: %s, %v", i, show(got), idsOf(out))
		}
	}
}

// P16.1: small states, all of them.
func TestPutSmall(t *testing.T) {
	for a := int64(1); a < 7; a++ {
		for held := range int(a) {
			for since := range int64(4) {
				st := api.Buffer{Msgs: upTo(held)}
				if held > 0 {
					st.Since = since
				}
				for now := range int64(5) {
					for id := int64(-1); id < 7; id++ {
						putAsSaid(t, st, a, now, plain(id))
					}
				}
			}
		}
	}
}

// P16.1: near to great numbers of messages: one short of a, and two.
func TestPutEdges(t *testing.T) {
	for _, a := range []int64{1, 2, 255, 256, 257, 999, mostHeld} {
		for _, held := range []int64{0, a / 2, a - 2, a - 1} {
			st := api.Buffer{Msgs: upTo(int(max(held, 0)))}
			if held > 0 {
				st.Since = api.MaxTick
			}
			putAsSaid(t, st, a, 0, plain(-1))
			putAsSaid(t, st, a, api.MaxTick, plain(0))
		}
	}
	got, out := Put(api.Buffer{Msgs: upTo(mostHeld - 1), Since: 4}, mostHeld, 5, plain(-1))
	if len(got.Msgs) != 0 || got.Since != 0 || len(out) != mostHeld || out[mostHeld-1].Id != -1 {
		t.Error(show(got), len(out))
	}
}

// P16.1: any messages, with something in each field.
func TestPutRandom(t *testing.T) {
	r := newRandom(1)
	first, held, went := 0, 0, 0
	for range 50000 {
		a := randomMany(r)
		st := randomState(r, a)
		_, out := putAsSaid(t, st, a, randomTick(r), randomMsg(r))
		switch {
		case len(out) > 0:
			went++
		case len(st.Msgs) == 0:
			first++
		default:
			held++
		}
	}
	if first < 1000 || held < 1000 || went < 1000 {
		t.Errorf("%d were first, %d held, with %d all went on", first, held, went)
	}
}
