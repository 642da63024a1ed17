package queue

import (
	"math"
	"math/rand/v2"
	"slices"
	"strconv"
	"strings"
	"testing"

	"conduit/api"
)

// mostCount is the bound of an inbox's counts.
const mostCount = 1 << 62

func newRandom(seed uint64) *rand.Rand { return rand.New(rand.NewPCG(seed, 19)) }

func pick[T any](r *rand.Rand, l ...T) T { return l[r.IntN(len(l))] }

// plain is a message that bears its number alone.
func plain(id int64, prio int) api.Msg {
	return api.Msg{Id: id, Topic: "t", Prio: prio, Body: api.Datum{Kind: api.KInt, Int: id}}
}

// of is an inbox of plain messages 1, 2, 3 .. of these priorities, with counts.
func of(prios ...int) api.Inbox {
	q := api.Inbox{Refused: 7, Dropped: 40}
	for i, prio := range prios {
		q.Msgs = append(q.Msgs, plain(int64(i+1), prio))
	}
	return q
}

func idsOf(l []api.Msg) (out []int64) {
	for _, m := range l {
		out = append(out, m.Id)
	}
	return out
}

func show(q api.Inbox) string {
	var b strings.Builder
	for _, m := range q.Msgs {
		b.WriteString(strconv.FormatInt(m.Id, 10) + ":" + strconv.Itoa(m.Prio) + " ")
	}
	return b.String() + "refused " + strconv.FormatInt(q.Refused, 10) + ", dropped " + strconv.FormatInt(q.Dropped, 10)
}

func sameValue(x, y api.Datum) bool {
	return x.Kind == y.Kind && x.Int == y.Int && x.Bits == y.Bits && x.Text == y.Text && slices.EqualFunc(x.List, y.List, sameValue)
}

// sameMsg looks at each field: a message stays whole.
func sameMsg(x, y api.Msg) bool {
	body := sameValue(x.Body, y.Body)
	times := x.At == y.At && x.Until == y.Until && x.Hops == y.Hops
	return body && times && x.Id == y.Id && x.Topic == y.Topic && x.Reply == y.Reply && x.Corr == y.Corr && x.Prio == y.Prio
}

func sameMsgs(x, y []api.Msg) bool { return slices.EqualFunc(x, y, sameMsg) }

func same(x, y api.Inbox) bool {
	return x.Refused == y.Refused && x.Dropped == y.Dropped && sameMsgs(x.Msgs, y.Msgs)
}

// told is all that Put answers.
type told struct {
	q    api.Inbox
	gone api.Msg
	goes bool
	err  api.Errno
}

func sameTold(x, y told) bool {
	return same(x.q, y.q) && sameMsg(x.gone, y.gone) && x.goes == y.goes && x.err == y.err
}

func (a told) show() string {
	return show(a.q) + "; " + strconv.FormatInt(a.gone.Id, 10) + ", " + strconv.FormatBool(a.goes) + ", " + a.err.Error()
}

func put(q api.Inbox, room, drop int, m api.Msg) told {
	x, gone, goes, err := Put(q, room, drop, m)
	return told{x, gone, goes, err}
}

// chapterPut is P19.1.
func chapterPut(q api.Inbox, room, drop int, m api.Msg) told {
	with := slices.Concat(q.Msgs, []api.Msg{m})
	if len(q.Msgs) < room {
		return told{q: api.Inbox{Msgs: with, Refused: q.Refused, Dropped: q.Dropped}}
	}
	if drop == api.DropNew {
		return told{q: api.Inbox{Msgs: q.Msgs, Refused: q.Refused, Dropped: q.Dropped + 1}, gone: m, goes: true}
	}
	if drop != api.DropOld {
		return told{q: api.Inbox{Msgs: q.Msgs, Refused: q.Refused + 1, Dropped: q.Dropped}, err: api.ErrFull}
	}
	at := 0
	for i := range with {
		if with[i].Prio < with[at].Prio {
			at = i
		}
	}
	others := slices.Concat(with[:at], with[at+1:])
	return told{q: api.Inbox{Msgs: others, Refused: q.Refused, Dropped: q.Dropped + 1}, gone: with[at], goes: true}
}

// chapterTake is P19.2.
func chapterTake(q api.Inbox) (api.Inbox, api.Msg, bool) {
	if len(q.Msgs) == 0 {
		return q, api.Msg{}, false
	}
	at := 0
	for i := range q.Msgs {
		if q.Msgs[i].Prio > q.Msgs[at].Prio {
			at = i
		}
	}
	others := slices.Concat(q.Msgs[:at], q.Msgs[at+1:])
	return api.Inbox{Msgs: others, Refused: q.Refused, Dropped: q.Dropped}, q.Msgs[at], true
}

// chapterLate is P19.3.
func chapterLate(q api.Inbox, now int64) (api.Inbox, []api.Msg) {
	isLate := func(m api.Msg) bool { return m.Until != 0 && m.Until < now }
	stay := slices.DeleteFunc(slices.Clone(q.Msgs), isLate)
	late := slices.DeleteFunc(slices.Clone(q.Msgs), func(m api.Msg) bool { return !isLate(m) })
	return api.Inbox{Msgs: stay, Refused: q.Refused, Dropped: q.Dropped + int64(len(late))}, late
}

// putAsSaid holds what Put answers against P19.1.
func putAsSaid(t testing.TB, q api.Inbox, room, drop int, m api.Msg) told {
	t.Helper()
	got, want := put(q, room, drop, m), chapterPut(q, room, drop, m)
	if !sameTold(got, want) {
		t.Fatalf("Put(%s, room %d, drop %d, %d:%d): %s, not %s", show(q), room, drop, m.Id, m.Prio, got.show(), want.show())
	}
	return got
}

// takeAsSaid holds what Take answers against P19.2.
func takeAsSaid(t testing.TB, q api.Inbox) (api.Inbox, api.Msg, bool) {
	t.Helper()
	got, m, ok := Take(q)
	if want, wantMsg, wantOk := chapterTake(q); !same(got, want) || !sameMsg(m, wantMsg) || ok != wantOk {
		t.Fatalf("Take(%s): %s; %d, %v, not %s; %d", show(q), show(got), m.Id, ok, show(want), wantMsg.Id)
	}
	return got, m, ok
}

// lateAsSaid holds what Late answers against P19.3.
func lateAsSaid(t testing.TB, q api.Inbox, now int64) (api.Inbox, []api.Msg) {
	t.Helper()
	got, late := Late(q, now)
	if want, wantLate := chapterLate(q, now); !same(got, want) || !sameMsgs(late, wantLate) {
		t.Fatalf("Late(%s, %d): %s; %v, not %s; %v", show(q), now, show(got), idsOf(late), show(want), idsOf(wantLate))
	}
	return got, late
}

func randomPrio(r *rand.Rand) int {
	return pick(r, r.IntN(3), r.IntN(9)-4, 0, int(r.Uint64()), math.MinInt, math.MaxInt)
}

func randomTick(r *rand.Rand) int64 {
	return pick(r, r.Int64N(8), r.Int64N(8), 0, r.Int64N(api.MaxTick+1), api.MaxTick)
}

func randomDrop(r *rand.Rand) int {
	return pick(r, api.DropNew, api.DropOld, api.DropOld, api.DropNone, r.IntN(9)-4)
}

func randomCount(r *rand.Rand) int64 { return pick(r, 0, r.Int64N(9), r.Int64N(mostCount)) }

// randomBody is some value, often one with parts.
func randomBody(r *rand.Rand, deep int) api.Datum {
	switch r.IntN(4 + deep) {
	case 0:
		return api.Datum{Kind: api.KNil}
	case 1:
		return api.Datum{Kind: api.KInt, Int: int64(r.Uint64())}
	case 2:
		return api.Datum{Kind: api.KText, Text: strconv.Itoa(r.IntN(50))}
	case 3:
		return api.Datum{Kind: api.KFloat, Bits: 0x3ff0000000000000 + r.Uint64N(9)}
	}
	d := api.Datum{Kind: api.KList}
	for range r.IntN(4) {
		d.List = append(d.List, randomBody(r, deep-1))
	}
	return d
}

// randomMsg has something in each field.
func randomMsg(r *rand.Rand) api.Msg {
	return api.Msg{
		Id: int64(r.Uint64()), Topic: pick(r, "a", "a/b", "$s", "/"), Body: randomBody(r, 2),
		At: randomTick(r), Until: randomTick(r), Reply: pick(r, "", "r", "r/1"),
		Corr: int64(r.Uint64()), Prio: randomPrio(r), Hops: r.IntN(api.MaxHops + 1),
	}
}

// randomInbox has up to so many messages, half of the times just so many.
func randomInbox(r *rand.Rand, most int) api.Inbox {
	q := api.Inbox{Refused: randomCount(r), Dropped: randomCount(r)}
	for range pick(r, most, r.IntN(most+1)) {
		q.Msgs = append(q.Msgs, randomMsg(r))
	}
	return q
}
