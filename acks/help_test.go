package acks

import (
	"math/rand/v2"
	"slices"
	"strconv"
	"strings"
	"testing"

	"conduit/api"
	"conduit/datum"
	"conduit/topic"
)

// mostTicks is the bound of a policy's ticks, mostTries that of its tries.
const (
	mostTicks = 1000000
	mostTries = 16
)

func newRandom(seed uint64) *rand.Rand { return rand.New(rand.NewPCG(seed, 24)) }

func pick[T any](r *rand.Rand, l ...T) T { return l[r.IntN(len(l))] }

// plain is a message that bears its number alone.
func plain(id int64) api.Msg {
	return api.Msg{Id: id, Topic: "t", Body: api.Datum{Kind: api.KInt, Int: id}}
}

// sent is a plain message that waits.
func sent(id, tries, due, until int64) api.Sent {
	m := plain(id)
	m.Until = until
	return api.Sent{Msg: m, Tries: tries, Due: due}
}

// upTo is plain messages 0 to n - 1 that wait.
func upTo(n int) (l []api.Sent) {
	for id := range int64(n) {
		l = append(l, sent(id, 1, id%7, 0))
	}
	return l
}

func idsOf(l []api.Msg) (out []int64) {
	for _, m := range l {
		out = append(out, m.Id)
	}
	return out
}

func msgsOf(l []api.Sent) (out []api.Msg) {
	for _, s := range l {
		out = append(out, s.Msg)
	}
	return out
}

func show(l []api.Sent) string {
	var b strings.Builder
	for i, s := range l {
		if i == 20 {
			return b.String() + ".. " + strconv.Itoa(len(l)) + " in all"
		}
		for k, n := range []int64{s.Msg.Id, s.Tries, s.Due, s.Msg.Until} {
			b.WriteString([]string{"", " tries ", " due ", " until "}[k] + strconv.FormatInt(n, 10))
		}
		b.WriteString("; ")
	}
	return b.String() + strconv.Itoa(len(l)) + " wait"
}

// sameValue looks at each field, of values that are none too.
func sameValue(x, y api.Datum) bool {
	return x.Kind == y.Kind && x.Int == y.Int && x.Bits == y.Bits && x.Text == y.Text && slices.EqualFunc(x.List, y.List, sameValue)
}

// sameMsg looks at each field: a message is sent again whole.
func sameMsg(x, y api.Msg) bool {
	body := sameValue(x.Body, y.Body)
	times := x.At == y.At && x.Until == y.Until && x.Hops == y.Hops
	return body && times && x.Id == y.Id && x.Topic == y.Topic && x.Reply == y.Reply && x.Corr == y.Corr && x.Prio == y.Prio
}

func sameMsgs(x, y []api.Msg) bool { return slices.EqualFunc(x, y, sameMsg) }

func sameSent(x, y api.Sent) bool {
	return x.Tries == y.Tries && x.Due == y.Due && sameMsg(x.Msg, y.Msg)
}

func same(x, y []api.Sent) bool { return slices.EqualFunc(x, y, sameSent) }

func isTick(n int64) bool { return n >= 0 && n <= api.MaxTick }

// fitMsg is DOC.md's word.
func fitMsg(m api.Msg) bool {
	topics := topic.Name(m.Topic) && (m.Reply == "" || topic.Name(m.Reply))
	return datum.Valid(m.Body) && topics && isTick(m.At) && isTick(m.Until) && m.Hops >= 0 && m.Hops <= api.MaxHops
}

// fit is the chapter's word.
func fit(l []api.Sent, p api.Policy) bool {
	ids := map[int64]bool{}
	for _, s := range l {
		if !fitMsg(s.Msg) || ids[s.Msg.Id] || s.Tries < 1 || s.Tries > p.Tries || s.Due < 0 || s.Due > 2*api.MaxTick {
			return false
		}
		ids[s.Msg.Id] = true
	}
	return len(l) <= api.MaxSent
}

// chapterWait is P12.3, of a fit policy.
func chapterWait(k int64, p api.Policy) int64 {
	wait := p.Base
	for range k {
		wait = min(2*wait, p.Most)
	}
	return wait
}

func hasId(id int64) func(api.Sent) bool {
	return func(s api.Sent) bool { return s.Msg.Id == id }
}

// chapterSend is P24.1.
func chapterSend(l []api.Sent, m api.Msg, p api.Policy, now int64) ([]api.Sent, api.Errno) {
	switch {
	case len(l) == api.MaxSent:
		return l, api.ErrFull
	case slices.ContainsFunc(l, hasId(m.Id)):
		return l, api.ErrTwice
	}
	return slices.Concat(l, []api.Sent{{Msg: m, Tries: 1, Due: now + p.Base}}), api.OK
}

// chapterAck is P24.2.
func chapterAck(l []api.Sent, id int64) ([]api.Sent, api.Errno) {
	left := slices.DeleteFunc(slices.Clone(l), hasId(id))
	if len(left) == len(l) {
		return l, api.ErrNobody
	}
	return left, api.OK
}

// chapterNack is P24.3.
func chapterNack(l []api.Sent, id int64, now int64) ([]api.Sent, api.Errno) {
	l = slices.Clone(l)
	at := slices.IndexFunc(l, hasId(id))
	if at < 0 {
		return l, api.ErrNobody
	}
	l[at].Due = now
	return l, api.OK
}

// told is all that Due answers.
type told struct {
	rest              []api.Sent
	again, dead, late []api.Msg
}

func due(l []api.Sent, p api.Policy, now int64) (a told) {
	a.rest, a.again, a.dead, a.late = Due(l, p, now)
	return a
}

func (a told) has() bool { return len(a.again)+len(a.dead)+len(a.late) > 0 }

func (a told) show() string {
	var b strings.Builder
	b.WriteString(show(a.rest))
	for k, l := range [][]api.Msg{a.again, a.dead, a.late} {
		b.WriteString([]string{"; again", "; dead", "; late"}[k])
		for _, id := range idsOf(l) {
			b.WriteString(" " + strconv.FormatInt(id, 10))
		}
	}
	return b.String()
}

func sameTold(x, y told) bool {
	return same(x.rest, y.rest) && sameMsgs(x.again, y.again) && sameMsgs(x.dead, y.dead) && sameMsgs(x.late, y.late)
}

// chapterDue is P24.4: each list is picked out by itself.
func chapterDue(l []api.Sent, p api.Policy, now int64) (a told) {
	isLate := func(s api.Sent) bool { return s.Msg.Until > 0 && s.Msg.Until < now }
	isDue := func(s api.Sent) bool { return !isLate(s) && s.Due <= now }
	for _, s := range l {
		if isLate(s) {
			a.late = append(a.late, s.Msg)
		}
		if isDue(s) && s.Tries == p.Tries {
			a.dead = append(a.dead, s.Msg)
		}
		if isDue(s) && s.Tries != p.Tries {
			a.again = append(a.again, s.Msg)
			a.rest = append(a.rest, api.Sent{Msg: s.Msg, Tries: s.Tries + 1, Due: now + chapterWait(s.Tries, p)})
		}
		if !isLate(s) && !isDue(s) {
			a.rest = append(a.rest, s)
		}
	}
	return a
}

// chapterNext is P24.5.
func chapterNext(l []api.Sent) (int64, bool) {
	var all []int64
	for _, s := range l {
		all = append(all, s.Due)
		if s.Msg.Until != 0 {
			all = append(all, s.Msg.Until+1)
		}
	}
	if len(all) == 0 {
		return 0, false
	}
	return slices.Min(all), true
}

// sendAsSaid holds what Send answers against P24.1.
func sendAsSaid(t testing.TB, l []api.Sent, m api.Msg, p api.Policy, now int64) ([]api.Sent, api.Errno) {
	t.Helper()
	got, e := Send(l, m, p, now)
	if want, wantE := chapterSend(l, m, p, now); !same(got, want) || e != wantE {
		t.Fatalf("Send(%s, %d, %v, %d): %s; %v, not %s; %v", show(l), m.Id, p, now, show(got), e, show(want), wantE)
	}
	if !fit(got, p) {
		t.Fatalf("Send(%s, %d, %v, %d): %s is not fit", show(l), m.Id, p, now, show(got))
	}
	return got, e
}

// ackAsSaid holds what Ack answers against P24.2.
func ackAsSaid(t testing.TB, l []api.Sent, id int64) ([]api.Sent, api.Errno) {
	t.Helper()
	got, e := Ack(l, id)
	if want, wantE := chapterAck(l, id); !same(got, want) || e != wantE {
		t.Fatalf("Ack(%s, %d): %s; %v, not %s; %v", show(l), id, show(got), e, show(want), wantE)
	}
	return got, e
}

// nackAsSaid holds what Nack answers against P24.3.
func nackAsSaid(t testing.TB, l []api.Sent, id int64, now int64) ([]api.Sent, api.Errno) {
	t.Helper()
	got, e := Nack(l, id, now)
	if want, wantE := chapterNack(l, id, now); !same(got, want) || e != wantE {
		t.Fatalf("Nack(%s, %d, %d): %s; %v, not %s; %v", show(l), id, now, show(got), e, show(want), wantE)
	}
	return got, e
}

// dueAsSaid holds what Due answers against P24.4.
func dueAsSaid(t testing.TB, l []api.Sent, p api.Policy, now int64) told {
	t.Helper()
	got := due(l, p, now)
	if want := chapterDue(l, p, now); !sameTold(got, want) {
		t.Fatalf("Due(%s, %v, %d): %s, not %s", show(l), p, now, got.show(), want.show())
	}
	if !fit(got.rest, p) {
		t.Fatalf("Due(%s, %v, %d): %s is not fit", show(l), p, now, got.show())
	}
	return got
}

// nextAsSaid holds what Next answers against P24.5.
func nextAsSaid(t testing.TB, l []api.Sent) (int64, bool) {
	t.Helper()
	at, ok := Next(l)
	if want, wantOk := chapterNext(l); at != want || ok != wantOk {
		t.Fatalf("Next(%s): %d, %v, not %d, %v", show(l), at, ok, want, wantOk)
	}
	return at, ok
}

func randomTick(r *rand.Rand) int64 {
	return pick(r, r.Int64N(12), r.Int64N(12), 0, r.Int64N(api.MaxTick+1), api.MaxTick-r.Int64N(12), api.MaxTick)
}

// randomUntil is often far away, so that not all messages are late.
func randomUntil(r *rand.Rand) int64 { return pick(r, 0, 0, randomTick(r)) }

func randomDue(r *rand.Rand) int64 {
	return pick(r, randomTick(r), randomTick(r), randomTick(r), r.Int64N(2*api.MaxTick+1), 2*api.MaxTick)
}

// randomPolicy is fit, mostly of small numbers.
func randomPolicy(r *rand.Rand) api.Policy {
	base := 1 + pick(r, 0, r.Int64N(4), r.Int64N(4), r.Int64N(mostTicks))
	most := min(base+pick(r, 0, r.Int64N(20), r.Int64N(20), r.Int64N(mostTicks), mostTicks), mostTicks)
	return api.Policy{Tries: 1 + pick(r, 0, r.Int64N(4), r.Int64N(mostTries), mostTries-1), Base: base, Most: most}
}

// randomBody is some value, often one with parts.
func randomBody(r *rand.Rand, deep int) api.Datum {
	switch r.IntN(4 + deep) {
	case 0:
		return api.Datum{Kind: api.KNil}
	case 1:
		return api.Datum{Kind: api.KInt, Int: int64(r.Uint64())}
	case 2:
		return api.Datum{Kind: api.KText, Text: strconv.Itoa(r.IntN(50))}
	case 3:
		return api.Datum{Kind: api.KFloat, Bits: 0x3ff0000000000000 + r.Uint64N(9)}
	}
	d := api.Datum{Kind: api.KList}
	for range r.IntN(4) {
		d.List = append(d.List, randomBody(r, deep-1))
	}
	return d
}

// randomMsg is a fit one, with something in each field.
func randomMsg(r *rand.Rand, id int64) api.Msg {
	return api.Msg{
		Id: id, Topic: pick(r, "a", "a/b", "$s", "/"), Body: randomBody(r, 2),
		At: randomTick(r), Until: randomUntil(r), Reply: pick(r, "", "r", "r/1"),
		Corr: int64(r.Uint64()), Prio: r.IntN(9) - 4, Hops: r.IntN(api.MaxHops + 1),
	}
}

// randomList is fit with p and has up to so many, half of the times just so many; their numbers do not rise.
func randomList(r *rand.Rand, p api.Policy, most int) (l []api.Sent) {
	many := pick(r, most, r.IntN(most+1))
	base := pick(r, 0, -5, int64(r.Uint64()))
	for _, n := range r.Perm(2*many + 1)[:many] {
		tries := pick(r, 1+r.Int64N(p.Tries), 1+r.Int64N(p.Tries), p.Tries)
		l = append(l, api.Sent{Msg: randomMsg(r, base+int64(n)), Tries: tries, Due: randomDue(r)})
	}
	return l
}

// randomId is often that of one that waits.
func randomId(r *rand.Rand, l []api.Sent) int64 {
	n := len(l)
	if n == 0 || r.IntN(4) == 0 {
		return pick(r, 0, r.Int64N(9), -1, int64(r.Uint64()))
	}
	return pick(r, l[0], l[n-1], l[r.IntN(n)]).Msg.Id + pick[int64](r, 0, 0, 0, 0, 0, 1, 1<<32)
}

// eachRow calls do with each row of so many numbers from 0 to below - 1.
func eachRow(long, below int, do func([]int)) {
	row := make([]int, long)
	for {
		do(row)
		i := 0
		for ; i < long; i++ {
			if row[i]++; row[i] < below {
				break
			}
			row[i] = 0
		}
		if i == long {
			return
		}
	}
}

// eachSmallList calls do with each list of so many that were tried once or twice, with each Due and Until below these.
func eachSmallList(long, dues, untils int, do func([]api.Sent)) {
	const tries = 2
	eachRow(long, tries*dues*untils, func(row []int) {
		var l []api.Sent
		for i, n := range row {
			l = append(l, sent(int64(i), int64(1+n%tries), int64(n/tries%dues), int64(n/tries/dues)))
		}
		do(l)
	})
}
