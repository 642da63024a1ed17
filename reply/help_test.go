package reply

import (
	"math/rand/v2"
	"slices"
	"strconv"
	"strings"
	"testing"

	"conduit/api"
)

// greatest is the bound of the numbers, as the chapter has it.
const greatest int64 = 1 << 62

func newRandom(seed uint64) *rand.Rand { return rand.New(rand.NewPCG(seed, 23)) }

func pick[T any](r *rand.Rand, l ...T) T { return l[r.IntN(len(l))] }

// of is a state of these requests; Next is the last one's number.
func of(l ...api.Ask) api.Asks {
	st := api.Asks{Wait: l}
	if n := len(l); n > 0 {
		st.Next = l[n-1].Corr
	}
	return st
}

// until is a state of requests 1, 2, 3 .. on r that wait until these ticks.
func until(ticks ...int64) api.Asks {
	st := api.Asks{Next: int64(len(ticks))}
	for i, tick := range ticks {
		st.Wait = append(st.Wait, api.Ask{Corr: int64(i + 1), Until: tick, Topic: "r"})
	}
	return st
}

func corrsOf(l []api.Ask) (out []int64) {
	for _, a := range l {
		out = append(out, a.Corr)
	}
	return out
}

func show(st api.Asks) string {
	var b strings.Builder
	b.WriteString("next " + strconv.FormatInt(st.Next, 10))
	for i, a := range st.Wait {
		if i == 20 {
			b.WriteString(" .. " + strconv.Itoa(len(st.Wait)) + " in all")
			break
		}
		b.WriteString(" " + strconv.FormatInt(a.Corr, 10) + ":" + a.Topic + ":" + strconv.FormatInt(a.Until, 10))
	}
	return b.String()
}

func same(x, y api.Asks) bool { return x.Next == y.Next && slices.Equal(x.Wait, y.Wait) }

// fit is the chapter's word.
func fit(st api.Asks) bool {
	if st.Next < 0 || st.Next > greatest || len(st.Wait) > api.MaxAsks {
		return false
	}
	last := int64(0)
	for _, a := range st.Wait {
		if a.Corr <= last || a.Corr > st.Next || a.Until < 0 || a.Until > api.MaxTick {
			return false
		}
		last = a.Corr
	}
	return true
}

// chapterOpen is P23.1.
func chapterOpen(st api.Asks, topic string, until int64) (api.Asks, int64, api.Errno) {
	if len(st.Wait) == api.MaxAsks || st.Next == greatest {
		return st, 0, api.ErrFull
	}
	n := st.Next + 1
	return api.Asks{Next: n, Wait: slices.Concat(st.Wait, []api.Ask{{Corr: n, Until: until, Topic: topic}})}, n, api.OK
}

// chapterAnswer is P23.2.
func chapterAnswer(st api.Asks, corr int64, topic string, now int64) (api.Asks, api.Errno) {
	at := slices.IndexFunc(st.Wait, func(a api.Ask) bool { return a.Corr == corr && a.Topic == topic })
	if at < 0 {
		return st, api.ErrReply
	}
	left := api.Asks{Next: st.Next, Wait: slices.Concat(st.Wait[:at], st.Wait[at+1:])}
	if last := st.Wait[at].Until; last != 0 && last < now {
		return left, api.ErrLate
	}
	return left, api.OK
}

// chapterExpire is P23.3.
func chapterExpire(st api.Asks, now int64) (api.Asks, []api.Ask) {
	over := func(a api.Ask) bool { return a.Until != 0 && a.Until < now }
	stay := slices.DeleteFunc(slices.Clone(st.Wait), over)
	late := slices.DeleteFunc(slices.Clone(st.Wait), func(a api.Ask) bool { return !over(a) })
	return api.Asks{Next: st.Next, Wait: stay}, late
}

// openAsSaid holds what Open answers against P23.1 and P23.6.
func openAsSaid(t testing.TB, st api.Asks, topic string, until int64) (api.Asks, int64, api.Errno) {
	t.Helper()
	got, n, e := Open(st, topic, until)
	want, wantN, wantE := chapterOpen(st, topic, until)
	if !same(got, want) || n != wantN || e != wantE {
		t.Fatalf("Open(%s, %q, %d): %s; %d, %v, not %s; %d, %v", show(st), topic, until, show(got), n, e, show(want), wantN, wantE)
	}
	if !fit(got) {
		t.Fatalf("Open(%s, %q, %d): %s is not fit", show(st), topic, until, show(got))
	}
	return got, n, e
}

// answerAsSaid holds what Answer answers against P23.2 and P23.6.
func answerAsSaid(t testing.TB, st api.Asks, corr int64, topic string, now int64) (api.Asks, api.Errno) {
	t.Helper()
	got, e := Answer(st, corr, topic, now)
	want, wantE := chapterAnswer(st, corr, topic, now)
	if !same(got, want) || e != wantE {
		t.Fatalf("Answer(%s, %d, %q, %d): %s; %v, not %s; %v", show(st), corr, topic, now, show(got), e, show(want), wantE)
	}
	if !fit(got) {
		t.Fatalf("Answer(%s, %d, %q, %d): %s is not fit", show(st), corr, topic, now, show(got))
	}
	return got, e
}

// expireAsSaid holds what Expire answers against P23.3 and P23.6.
func expireAsSaid(t testing.TB, st api.Asks, now int64) (api.Asks, []api.Ask) {
	t.Helper()
	got, late := Expire(st, now)
	if want, wantLate := chapterExpire(st, now); !same(got, want) || !slices.Equal(late, wantLate) {
		t.Fatalf("Expire(%s, %d): %s; %v, not %s; %v", show(st), now, show(got), late, show(want), wantLate)
	}
	if !fit(got) {
		t.Fatalf("Expire(%s, %d): %s is not fit", show(st), now, show(got))
	}
	return got, late
}

func randomTick(r *rand.Rand) int64 {
	return pick(r, r.Int64N(8), r.Int64N(8), 0, r.Int64N(api.MaxTick+1), api.MaxTick)
}

func randomTopic(r *rand.Rand) string { return pick(r, "r", "r", "r/1", "$s", "/", "\u00e4") }

// randomState is fit, has up to so many requests and is now and then at the bound of the numbers.
func randomState(r *rand.Rand, most int) api.Asks {
	st := api.Asks{Next: pick(r, 0, r.Int64N(9), 1<<31-2, r.Int64N(greatest-9000))}
	for range pick(r, most, r.IntN(most+1)) {
		st.Next += 1 + pick(r, 0, r.Int64N(4))
		st.Wait = append(st.Wait, api.Ask{Corr: st.Next, Until: randomTick(r), Topic: randomTopic(r)})
	}
	st.Next = pick(r, st.Next, st.Next+r.Int64N(4), greatest-1, greatest)
	return st
}

// randomAnswer is a number and a topic, often those of one that waits.
func randomAnswer(r *rand.Rand, st api.Asks) (int64, string) {
	n := len(st.Wait)
	if n == 0 || r.IntN(5) == 0 {
		return pick(r, r.Int64N(12), st.Next, st.Next+1, -r.Int64N(5), int64(r.Uint64())), randomTopic(r)
	}
	a := pick(r, st.Wait[0], st.Wait[n-1], st.Wait[r.IntN(n)])
	return a.Corr + pick[int64](r, 0, 0, 0, 0, 0, 1, -1, 1<<32), pick(r, a.Topic, a.Topic, a.Topic, randomTopic(r), "", a.Topic+"/")
}

// eachRow calls do with each row of so many numbers from 0 to below - 1.
func eachRow(long int, below int64, do func([]int64)) {
	row := make([]int64, long)
	for {
		do(row)
		i := 0
		for ; i < long; i++ {
			if row[i]++; row[i] < below {
				break
			}
			row[i] = 0
		}
		if i == long {
			return
		}
	}
}
