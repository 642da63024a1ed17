package buffer

import (
	"math/rand/v2"
	"slices"
	"strconv"
	"strings"
	"testing"

	"conduit/api"
	"conduit/datum"
	"conduit/topic"
)

// The bounds of a buffer's numbers.
const (
	mostHeld  = 1000
	mostTicks = 1000000
)

func newRandom(seed uint64) *rand.Rand { return rand.New(rand.NewPCG(seed, 16)) }

func pick[T any](r *rand.Rand, l ...T) T { return l[r.IntN(len(l))] }

// plain is a message that bears its number alone.
func plain(id int64) api.Msg {
	return api.Msg{Id: id, Topic: "t", Body: api.Datum{Kind: api.KInt, Int: id}}
}

func plains(ids ...int64) (l []api.Msg) {
	for _, id := range ids {
		l = append(l, plain(id))
	}
	return l
}

// upTo is plain messages 0 to n - 1.
func upTo(n int) (l []api.Msg) {
	for i := range int64(n) {
		l = append(l, plain(i))
	}
	return l
}

// of is a state that holds plain messages.
func of(since int64, ids ...int64) api.Buffer { return api.Buffer{Msgs: plains(ids...), Since: since} }

func idsOf(l []api.Msg) (out []int64) {
	for _, m := range l {
		out = append(out, m.Id)
	}
	return out
}

func show(st api.Buffer) string {
	var b strings.Builder
	b.WriteString("since " + strconv.FormatInt(st.Since, 10) + ":")
	for _, id := range idsOf(st.Msgs) {
		b.WriteString(" " + strconv.FormatInt(id, 10))
	}
	return b.String()
}

// sameValue looks at each field, of values that are none too.
func sameValue(x, y api.Datum) bool {
	return x.Kind == y.Kind && x.Int == y.Int && x.Bits == y.Bits && x.Text == y.Text && slices.EqualFunc(x.List, y.List, sameValue)
}

// sameMsg looks at each field: a message goes on whole.
func sameMsg(x, y api.Msg) bool {
	body := sameValue(x.Body, y.Body)
	times := x.At == y.At && x.Until == y.Until && x.Hops == y.Hops
	return body && times && x.Id == y.Id && x.Topic == y.Topic && x.Reply == y.Reply && x.Corr == y.Corr && x.Prio == y.Prio
}

func sameMsgs(x, y []api.Msg) bool { return slices.EqualFunc(x, y, sameMsg) }

func same(x, y api.Buffer) bool { return x.Since == y.Since && sameMsgs(x.Msgs, y.Msgs) }

func isTick(n int64) bool { return n >= 0 && n <= api.MaxTick }

// fitMsg is DOC.md's word.
func fitMsg(m api.Msg) bool {
	topics := topic.Name(m.Topic) && (m.Reply == "" || topic.Name(m.Reply))
	return datum.Valid(m.Body) && topics && isTick(m.At) && isTick(m.Until) && m.Hops >= 0 && m.Hops <= api.MaxHops
}

// fit is the chapter's word.
func fit(st api.Buffer, a int64) bool {
	for _, m := range st.Msgs {
		if !fitMsg(m) {
			return false
		}
	}
	return int64(len(st.Msgs)) < a && isTick(st.Since) && (len(st.Msgs) > 0 || st.Since == 0)
}

// chapterPut is P16.1.
func chapterPut(st api.Buffer, a int64, now int64, m api.Msg) (api.Buffer, []api.Msg) {
	was := len(st.Msgs)
	msgs := append(slices.Clone(st.Msgs), m)
	switch {
	case int64(len(msgs)) == a:
		return api.Buffer{}, msgs
	case was == 0:
		return api.Buffer{Msgs: msgs, Since: now}, nil
	}
	return api.Buffer{Msgs: msgs, Since: st.Since}, nil
}

// chapterTick is P16.2.
func chapterTick(st api.Buffer, b int64, now int64) (api.Buffer, []api.Msg) {
	stays := b == 0 || len(st.Msgs) == 0 || now < st.Since+b
	if stays {
		return st, nil
	}
	return api.Buffer{}, st.Msgs
}

// chapterNext is P16.4.
func chapterNext(st api.Buffer, b int64) (int64, bool) {
	if b > 0 && len(st.Msgs) > 0 {
		return st.Since + b, true
	}
	return 0, false
}

// putAsSaid holds what Put answers against P16.1.
func putAsSaid(t testing.TB, st api.Buffer, a int64, now int64, m api.Msg) (api.Buffer, []api.Msg) {
	t.Helper()
	got, out := Put(st, a, now, m)
	want, wantOut := chapterPut(st, a, now, m)
	if !same(got, want) || !sameMsgs(out, wantOut) {
		t.Fatalf("Put(%s, %d, %d, %d): %s, %v", show(st), a, now, m.Id, show(got), idsOf(out))
	}
	if !fit(got, a) {
		t.Fatalf("Put(%s, %d, %d, %d): %s is not fit", show(st), a, now, m.Id, show(got))
	}
	return got, out
}

// tickAsSaid holds what Tick answers against P16.2.
func tickAsSaid(t testing.TB, st api.Buffer, b int64, now int64) (api.Buffer, []api.Msg) {
	t.Helper()
	got, out := Tick(st, b, now)
	want, wantOut := chapterTick(st, b, now)
	if !same(got, want) || !sameMsgs(out, wantOut) {
		t.Fatalf("Tick(%s, %d, %d): %s, %v", show(st), b, now, show(got), idsOf(out))
	}
	return got, out
}

// flushAsSaid holds what Flush answers against P16.3.
func flushAsSaid(t testing.TB, st api.Buffer) (api.Buffer, []api.Msg) {
	t.Helper()
	got, out := Flush(st)
	if !same(got, api.Buffer{}) || !sameMsgs(out, st.Msgs) {
		t.Fatalf("Flush(%s): %s, %v", show(st), show(got), idsOf(out))
	}
	return got, out
}

// nextAsSaid holds what Next answers against P16.4.
func nextAsSaid(t testing.TB, st api.Buffer, b int64) (int64, bool) {
	t.Helper()
	at, ok := Next(st, b)
	if want, wantOk := chapterNext(st, b); at != want || ok != wantOk {
		t.Fatalf("Next(%s, %d): %d, %v", show(st), b, at, ok)
	}
	return at, ok
}

func randomTick(r *rand.Rand) int64 {
	return pick(r, r.Int64N(30), r.Int64N(api.MaxTick+1), 0, api.MaxTick, api.MaxTick-r.Int64N(30))
}

func randomTicks(r *rand.Rand) int64 {
	return pick(r, r.Int64N(30), 0, 1, mostTicks, r.Int64N(mostTicks+1))
}

func randomMany(r *rand.Rand) int64 { return 1 + pick(r, r.Int64N(4), r.Int64N(12), 0) }

// randomBody is some value, often one with parts.
func randomBody(r *rand.Rand, deep int) api.Datum {
	switch r.IntN(4 + deep) {
	case 0:
		return api.Datum{Kind: api.KNil}
	case 1:
		return api.Datum{Kind: api.KInt, Int: int64(r.Uint64())}
	case 2:
		return api.Datum{Kind: api.KText, Text: strconv.Itoa(r.IntN(50))}
	case 3:
		return api.Datum{Kind: api.KFloat, Bits: 0x3ff0000000000000 + r.Uint64N(9)}
	}
	d := api.Datum{Kind: api.KList}
	for range r.IntN(4) {
		d.List = append(d.List, randomBody(r, deep-1))
	}
	return d
}

// randomMsg is a fit one, with something in each field.
func randomMsg(r *rand.Rand) api.Msg {
	return api.Msg{
		Id: int64(r.Uint64()), Topic: pick(r, "a", "a/b", "$s", "/"), Body: randomBody(r, 2),
		At: randomTick(r), Until: randomTick(r), Reply: pick(r, "", "r", "r/1"),
		Corr: int64(r.Uint64()), Prio: r.IntN(9) - 4, Hops: r.IntN(api.MaxHops + 1),
	}
}

// randomState is fit with a; one message more makes it go on in a third of the times at least.
func randomState(r *rand.Rand, a int64) (st api.Buffer) {
	for range pick(r, a-1, r.Int64N(a), r.Int64N(a)) {
		st.Msgs = append(st.Msgs, randomMsg(r))
	}
	if len(st.Msgs) > 0 {
		st.Since = randomTick(r)
	}
	return st
}

// randomNow is a tick, often one near to that at which what is held goes on.
func randomNow(r *rand.Rand, st api.Buffer, b int64) int64 {
	near := st.Since + b + r.Int64N(5) - 2
	return pick(r, randomTick(r), min(max(near, 0), api.MaxTick), min(st.Since+r.Int64N(b+2), api.MaxTick))
}
