package reply

import (
	"testing"

	"conduit/api"
)

// P23.1: the number is one more than Next, whatever waits; the request goes behind the others with all that it has.
func TestOpenTurns(t *testing.T) {
	first := api.Ask{Corr: 1, Until: 9, Topic: "a"}
	for i, c := range []struct {
		st    api.Asks
		topic string
		until int64
		want  api.Asks
		n     int64
		err   api.Errno
	}{
		{api.Asks{}, "r", 0, of(api.Ask{Corr: 1, Topic: "r"}), 1, api.OK},
		{api.Asks{Wait: []api.Ask{}}, "r", 3, of(api.Ask{Corr: 1, Until: 3, Topic: "r"}), 1, api.OK},
		{api.Asks{Next: 7}, "r", 3, of(api.Ask{Corr: 8, Until: 3, Topic: "r"}), 8, api.OK},
		{of(first), "b", 2, of(first, api.Ask{Corr: 2, Until: 2, Topic: "b"}), 2, api.OK},
		{of(first), "a", 9, of(first, api.Ask{Corr: 2, Until: 9, Topic: "a"}), 2, api.OK},
		{api.Asks{Next: 5, Wait: []api.Ask{first}}, "b", 0, of(first, api.Ask{Corr: 6, Topic: "b"}), 6, api.OK},
		{of(first), "", api.MaxTick, of(first, api.Ask{Corr: 2, Until: api.MaxTick}), 2, api.OK},
		{api.Asks{Next: greatest - 2}, "r", 0, of(api.Ask{Corr: greatest - 1, Topic: "r"}), greatest - 1, api.OK},
		{api.Asks{Next: greatest - 1}, "r", 0, of(api.Ask{Corr: greatest, Topic: "r"}), greatest, api.OK},
		{api.Asks{Next: greatest}, "r", 0, api.Asks{Next: greatest}, 0, api.ErrFull},
		{api.Asks{Next: greatest, Wait: []api.Ask{first}}, "r", 0, api.Asks{Next: greatest, Wait: []api.Ask{first}}, 0, api.ErrFull},
	} {
		if got, n, e := openAsSaid(t, c.st, c.topic, c.until); !same(got, c.want) || n != c.n || e != c.err {
			t.Errorf("%d: %s; %d, %v", i, show(got), n, e)
		}
	}
}

// P23.1: as many as may wait, and one more; behind an end there is room again, and Next has not moved.
func TestOpenFull(t *testing.T) {
	var st api.Asks
	for i := range int64(api.MaxAsks) {
		var n int64
		var e api.Errno
		if st, n, e = openAsSaid(t, st, "r", i%3); n != i+1 || e != api.OK {
			t.Fatal(i, n, e)
		}
	}
	full, n, e := openAsSaid(t, st, "r", 0)
	if n != 0 || e != api.ErrFull || !same(full, st) {
		t.Fatal(show(full), n, e)
	}
	left, _ := answerAsSaid(t, full, 500, "r", 0)
	if _, n, e = openAsSaid(t, left, "r", 0); n != api.MaxAsks+1 || e != api.OK {
		t.Error("behind an answer", n, e)
	}
	left, _ = expireAsSaid(t, full, 2)
	if _, n, e = openAsSaid(t, left, "r", 0); n != api.MaxAsks+1 || e != api.OK {
		t.Error("behind some that expired", n, e)
	}
}

// P23.1: any states.
func TestOpenRandom(t *testing.T) {
	r := newRandom(1)
	ok, full := 0, 0
	for range 30000 {
		st := randomState(r, 12)
		if _, _, e := openAsSaid(t, st, randomTopic(r), randomTick(r)); e == api.OK {
			ok++
		} else {
			full++
		}
	}
	for range 20 {
		openAsSaid(t, randomState(r, api.MaxAsks), randomTopic(r), randomTick(r))
	}
	if min(ok, full) < 1000 {
		t.Errorf("%d went well, %d did not", ok, full)
	}
}
