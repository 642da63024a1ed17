package stats

import (
	"encoding/binary"
	"math"
	"slices"
	"strings"
	"sync"
	"testing"

	"conduit/api"
)

// 0.1: every call ends and none panics, at ticks that are none and plans that are not fit, too.
func TestAnything(t *testing.T) {
	r := newRandom(5)
	numbers := []int64{math.MinInt64, math.MinInt64 + 1, -1, 0, 1, lastTick + 1, math.MaxInt64}
	for range 3000 {
		l := randomEvents(r)
		for i := range l {
			l[i].At, l[i].Id, l[i].Handler, l[i].Kind = pick(r, numbers...), pick(r, numbers...), int(pick(r, numbers...)), pick(r, l[i].Kind, int(pick(r, numbers...)))
		}
		n := pick(r, someHandlers...)
		if len(Count(n, l)) != chapterHandlers(n) || len(Waits(n, l)) != chapterHandlers(n) {
			t.Fatal(n)
		}
	}
	p := api.Plan{Handlers: []api.Named{{Name: ""}, {Name: "\xff\n"}, {Name: strings.Repeat("long ", 9999), Inbox: -1, After: []int{7, -7}}}}
	if s := Text(p, []api.Counts{{Queued: math.MinInt64}, {Longest: math.MaxInt64}}); s != chapterText(p, []api.Counts{{Queued: math.MinInt64}, {Longest: math.MaxInt64}}) {
		t.Error(s)
	}
}

// roomy is a list in memory with spare room on both sides, where others stand.
func roomy[T any](l []T, spare ...T) (in, all []T) {
	all = slices.Concat(spare, l, spare)
	return all[len(spare) : len(spare)+len(l)], all
}

func sameEvents(a, b []api.Event) bool {
	return slices.EqualFunc(a, b, func(x, y api.Event) bool {
		same := x.Result.Body.Kind == y.Result.Body.Kind && x.Result.Body.Int == y.Result.Body.Int
		x.Result.Body, y.Result.Body = api.Datum{}, api.Datum{}
		return same && x.Kind == y.Kind && x.At == y.At && x.Id == y.Id && x.Handler == y.Handler && x.Corr == y.Corr && x.Result.Err == y.Result.Err && x.Result.Code == y.Result.Code && x.Result.Panic == y.Result.Panic && x.Result.Has == y.Result.Has
	})
}

// 0.3, 0.4, 0.8: events that are handed in stay as they are, those in spare room, too, which play no part, and are not kept; what is answered does not hang on what becomes of them, nor of another answer.
func TestMemory(t *testing.T) {
	r := newRandom(6)
	for range 2000 {
		made := randomEvents(r)
		in, all := roomy(made, published(1, 0), result(1, 0, api.OK, 3))
		was := slices.Clone(all)
		n := pick(r, someHandlers...)
		counts, waits := countAsSaid(t, n, in), waitsAsSaid(t, n, in)
		if !sameEvents(all, was) {
			t.Fatal("what was handed in has changed")
		}
		clear(all)
		if !slices.Equal(counts, chapterCount(n, made)) || !sameWaits(waits, chapterWaits(n, made)) {
			t.Fatal("what was answered changed with what was handed in")
		}
		clear(counts[:cap(counts)])
		for _, w := range waits {
			clear(w[:cap(w)])
		}
		clear(waits[:cap(waits)])
		countAsSaid(t, n, made)
		waitsAsSaid(t, n, made)
	}
}

// 0.4: no two handlers' waits share memory, spare room too.
func TestWaitsApart(t *testing.T) {
	r := newRandom(7)
	for range 2000 {
		l := randomEvents(r)
		said := chapterWaits(64, l)
		waits := Waits(64, l)
		for h := range waits {
			full := waits[h][:cap(waits[h])]
			for i := range full {
				full[i] = -77
			}
			for other := range waits {
				if other > h && !slices.Equal(waits[other], said[other]) {
					t.Fatal(h, other)
				}
			}
			if len(waits[h]) > 0 {
				waits[h] = append(waits[h][:0], said[h]...)
			}
		}
		if !sameWaits(waits, said) {
			t.Fatal(waits)
		}
	}
}

// 0.3, 0.4, 0.8: likewise of waits and counts that are handed in.
func TestListsHandedIn(t *testing.T) {
	l, all := roomy([]int64{1, 5, 9}, 70, -70)
	for k := -3; k < 1004; k++ {
		if x, ok := Middle(l, k); !slices.Contains([]int64{1, 5, 9}, x) || !ok {
			t.Fatal(k, x)
		}
	}
	if !slices.Equal(all, []int64{70, -70, 1, 5, 9, 70, -70}) {
		t.Error(all)
	}
	p := plan(t, `handler a = count; handler b = echo;`)
	c, whole := roomy([]api.Counts{{Done: 1}}, api.Counts{Late: 7})
	s := Text(p, c)
	if s != chapterText(p, []api.Counts{{Done: 1}}) || !slices.Equal(whole, []api.Counts{{Late: 7}, {Done: 1}, {Late: 7}}) || p.Handlers[0].Name != "a" || p.Handlers[1].Name != "b" {
		t.Error(s, whole)
	}
}

// 0.8: nil and empty are the same.
func TestNilAndEmpty(t *testing.T) {
	for _, l := range [][]api.Event{nil, {}, make([]api.Event, 0, 3)} {
		c, w := countAsSaid(t, 3, l), waitsAsSaid(t, 3, l)
		if len(c) != 3 || len(w) != 3 || c[2] != (api.Counts{}) || len(w[2]) != 0 {
			t.Error(c, w)
		}
	}
	for _, p := range []api.Plan{{}, {Handlers: []api.Named{}}} {
		if Text(p, nil) != "" || Text(p, []api.Counts{}) != "" {
			t.Error("text")
		}
	}
}

// happenings end where they are left, and begin anew.
func TestHappeningsLeft(t *testing.T) {
	l := []api.Event{published(1, 1), named(api.EvQueued, 1, 0), named(api.EvQueued, 1, 5), result(1, 1, api.OK, 4), named(api.EvCalled, 1, 0)}
	want := []any{queued{}, done{wait: 3, waited: true}, nil}
	for n := range len(want) {
		var got []any
		for _, h := range happenings(2, l) {
			got = append(got, h)
			if len(got) > n {
				break
			}
		}
		if !slices.Equal(got, want[:n+1]) {
			t.Error(n, got)
		}
	}
}

// 0.3: many at a time count one row.
func TestManyAtATime(t *testing.T) {
	r := newRandom(8)
	var l []api.Event
	for range 20 {
		l = append(l, randomEvents(r)...)
	}
	counts, waits := Count(64, l), Waits(64, l)
	var all sync.WaitGroup
	for range 8 {
		all.Go(func() {
			for range 30 {
				if !slices.Equal(Count(64, l), counts) || !sameWaits(Waits(64, l), waits) {
					t.Error("counted otherwise")
				}
			}
		})
	}
	all.Wait()
}

// Events and handlers as many as one may count are counted at once, not by looking back.
func TestManyEvents(t *testing.T) {
	var l []api.Event
	const n = 200000
	for id := range int64(n) {
		l = append(l, published(id, id), named(api.EvQueued, id, int(id%64)))
	}
	for id := range int64(n) {
		l = append(l, result(id, int(id%64), api.OK, n))
	}
	var sum api.Counts
	for _, c := range Count(64, l) {
		sum = Add(sum, c)
	}
	if sum != (api.Counts{Queued: n, Done: n, Good: n, Wait: n * (n + 1) / 2, Longest: n}) {
		t.Error(sum)
	}
	for h, w := range Waits(64, l) {
		if len(w) != n/64 || w[0] < 1 || !slices.IsSorted(w) || w[len(w)-1] != int64(n-h) {
			t.Fatal(h, len(w))
		}
	}
}

// eventsOf reads an event of each six bytes.
func eventsOf(b []byte) (l []api.Event) {
	for ; len(b) >= 6; b = b[6:] {
		l = append(l, api.Event{Kind: int(b[0] % 14), At: int64(binary.BigEndian.Uint16(b[1:])), Id: int64(b[3] % 8), Handler: int(b[4]%8) - 1, Result: api.Result{Err: []api.Errno{api.OK, api.ErrPanic, api.ErrHandler, api.ErrLate}[b[5]%4]}})
	}
	return l
}

// FuzzEvents looks for events of which something else is counted than the chapter says.
func FuzzEvents(f *testing.F) {
	r := newRandom(9)
	for range 40 {
		b := make([]byte, 6*r.IntN(30))
		for i := range b {
			b[i] = byte(r.IntN(256))
		}
		f.Add(b, r.IntN(9))
	}
	f.Fuzz(func(t *testing.T, b []byte, n int) {
		l := eventsOf(b)
		c := countAsSaid(t, n, l)
		for h, w := range waitsAsSaid(t, n, l) {
			if last, _ := Middle(w, 1000); last != c[h].Longest {
				t.Fatal(h, w, c[h])
			}
		}
	})
}
