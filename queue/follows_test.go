package queue

import (
	"cmp"
	"math/rand/v2"
	"slices"
	"testing"

	"conduit/api"
)

// call is one call of a row: Put with drop and a priority, Take, or Late at a tick.
type call struct {
	kind  int // 0: Put, 1: Take, 2: Late
	drop  int
	prio  int
	until int64
	now   int64
}

// ends is which messages came to which end, by their numbers.
type ends struct{ put, taken, gone, refused, late []int64 }

// run is an inbox on its way through a row of calls.
type run struct {
	t    testing.TB
	q    api.Inbox
	room int
	ends ends
}

func (x *run) do(id int64, c call) {
	x.t.Helper()
	switch c.kind {
	case 0:
		x.put(id, c)
	case 1:
		q, m, ok := takeAsSaid(x.t, x.q)
		if x.q = q; ok {
			x.ends.taken = append(x.ends.taken, m.Id)
		}
	default:
		q, late := lateAsSaid(x.t, x.q, c.now)
		x.q = q
		x.ends.late = append(x.ends.late, idsOf(late)...)
	}
}

func (x *run) put(id int64, c call) {
	x.t.Helper()
	m := plain(id, c.prio)
	m.Until = c.until
	a := putAsSaid(x.t, x.q, x.room, c.drop, m)
	x.q = a.q
	x.ends.put = append(x.ends.put, id)
	if a.goes {
		x.ends.gone = append(x.ends.gone, a.gone.Id)
	}
	if a.err == api.ErrFull {
		x.ends.refused = append(x.ends.refused, id)
	}
}

// goneThrough does a row of calls, of messages 1, 2, 3 .. by their places in it, and holds P19.4 and P19.6 behind each.
func goneThrough(t testing.TB, room int, row []call) *run {
	t.Helper()
	x := &run{t: t, room: room}
	for i, c := range row {
		x.do(int64(i+1), c)
		if len(x.q.Msgs) > room {
			t.Fatalf("room %d, %v: behind the one at %d %s", room, row, i, show(x.q))
		}
		ended := slices.Concat(x.ends.taken, x.ends.gone, x.ends.refused, x.ends.late, idsOf(x.q.Msgs))
		slices.Sort(ended)
		if !slices.Equal(ended, x.ends.put) {
			t.Fatalf("room %d, %v: behind the one at %d %v were put, of %v the end is known", room, row, i, x.ends.put, ended)
		}
		dropped, refused := int64(len(x.ends.gone)+len(x.ends.late)), int64(len(x.ends.refused))
		if x.q.Dropped != dropped || x.q.Refused != refused {
			t.Fatalf("room %d, %v: behind the one at %d %s", room, row, i, show(x.q))
		}
	}
	return x
}

// inOrder holds a row that goneThrough has done against P19.5.
func inOrder(t testing.TB, x *run, row []call) {
	t.Helper()
	last := map[int]int64{}
	for _, id := range x.ends.taken {
		prio := row[id-1].prio
		if id <= last[prio] {
			t.Fatalf("room %d, %v: of priority %d %d was taken behind %d", x.room, row, prio, id, last[prio])
		}
		last[prio] = id
	}
}

// P19.4, P19.5, P19.6: short rows, all of them.
func TestRowsSmall(t *testing.T) {
	kinds := []call{
		{kind: 0, drop: api.DropOld, prio: 0}, {kind: 0, drop: api.DropOld, prio: 1, until: 1},
		{kind: 0, drop: api.DropNew, prio: 1}, {kind: 0, drop: api.DropNone, prio: 0, until: 2},
		{kind: 1}, {kind: 2, now: 2},
	}
	for long := range 7 {
		rowsOf(long, len(kinds), func(numbers []int) {
			var row []call
			for _, n := range numbers {
				row = append(row, kinds[n+1])
			}
			for room := 1; room < 4; room++ {
				inOrder(t, goneThrough(t, room, row), row)
			}
		})
	}
}

func randomRow(r *rand.Rand) (row []call) {
	prios := 1 + r.IntN(4)
	for range r.IntN(80) {
		row = append(row, call{
			kind: pick(r, 0, 0, 0, 0, 1, r.IntN(3)), drop: randomDrop(r), prio: r.IntN(prios),
			until: randomTick(r), now: randomTick(r),
		})
	}
	return row
}

// P19.4, P19.5, P19.6: any rows.
func TestRowsRandom(t *testing.T) {
	r := newRandom(5)
	var all ends
	for range 4000 {
		row := randomRow(r)
		x := goneThrough(t, 1+r.IntN(12), row)
		inOrder(t, x, row)
		all.taken = append(all.taken, x.ends.taken...)
		all.gone = append(all.gone, x.ends.gone...)
		all.refused = append(all.refused, x.ends.refused...)
		all.late = append(all.late, x.ends.late...)
	}
	if min(len(all.taken), len(all.gone), len(all.refused), len(all.late)) < 1000 {
		t.Errorf("%d were taken, %d gone, %d refused, %d late", len(all.taken), len(all.gone), len(all.refused), len(all.late))
	}
}

// P19.4, P19.6: the greatest room, filled and gone beyond.
func TestRowsGreat(t *testing.T) {
	r := newRandom(6)
	x := &run{t: t, room: api.MaxInbox}
	for id := range int64(api.MaxInbox + 200) {
		x.do(id, call{drop: pick(r, api.DropOld, api.DropNew, api.DropNone), prio: r.IntN(5)})
	}
	if len(x.q.Msgs) != api.MaxInbox || x.q.Dropped+x.q.Refused != 200 {
		t.Error(len(x.q.Msgs), x.q.Dropped, x.q.Refused)
	}
}

// P19.5: all that wait are taken by priority, and within one as they came.
func TestTakenSorted(t *testing.T) {
	r := newRandom(7)
	for range 2000 {
		q := randomInbox(r, r.IntN(30))
		want := slices.Clone(q.Msgs)
		slices.SortStableFunc(want, func(x, y api.Msg) int { return cmp.Compare(y.Prio, x.Prio) })
		if got := takenAll(t, q); !sameMsgs(got, want) {
			t.Fatalf("%s: %v, not %v", show(q), idsOf(got), idsOf(want))
		}
	}
}

// P19.6: where more wait at the beginning than there is room for, no more come to wait.
func TestMoreThanRoom(t *testing.T) {
	r := newRandom(8)
	for range 5000 {
		q := randomInbox(r, 12)
		room := 1 + r.IntN(8)
		a := putAsSaid(t, q, room, randomDrop(r), randomMsg(r))
		if len(a.q.Msgs) > max(room, len(q.Msgs)) {
			t.Fatalf("%s, room %d: %s", show(q), room, a.show())
		}
	}
}

// FuzzCalls looks for rows of calls in which a message is lost, or another one goes or is taken than should be.
func FuzzCalls(f *testing.F) {
	f.Add(2, []byte{0, 8, 4, 0, 1, 1, 1})
	f.Add(1, []byte{0, 0, 0, 2, 1})
	f.Add(3, []byte{200, 100, 50, 25, 2, 255, 1})
	f.Fuzz(func(t *testing.T, room int, l []byte) {
		var row []call
		for _, c := range l {
			n := int(c / 3)
			row = append(row, call{kind: int(c % 3), drop: n % 4, prio: n / 4 % 4, until: int64(n / 16), now: int64(n % 8)})
		}
		if room >= 1 && room <= api.MaxInbox && len(row) < 500 {
			inOrder(t, goneThrough(t, room, row), row)
		}
	})
}
