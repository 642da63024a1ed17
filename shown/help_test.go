package shown

import (
	"math"
	"math/rand/v2"
	"slices"
	"strconv"
	"strings"
	"sync"
	"testing"

	"conduit/api"
	"conduit/check"
)

func newRandom(seed uint64) *rand.Rand { return rand.New(rand.NewPCG(seed, 9)) }

func pick[T any](r *rand.Rand, l ...T) T { return l[r.IntN(len(l))] }

const capWords = "flush close batch ack ping reset save load name until open"

// which is a word's capability.
func which(word string) int { return slices.Index(strings.Fields(capWords), word) }

// set is the set of these words.
func set(words string) api.Caps {
	var c api.Caps
	for _, word := range strings.Fields(words) {
		c |= 1 << which(word)
	}
	return c
}

// text is a set's words.
func text(c api.Caps) string {
	var l []string
	for k, word := range strings.Fields(capWords) {
		if c&(1<<k) != 0 {
			l = append(l, word)
		}
	}
	return strings.Join(l, " ")
}

func texts(l []api.Caps) string {
	var s []string
	for _, c := range l {
		s = append(s, text(c))
	}
	return strings.Join(s, "; ")
}

// The chapter's table, as it writes it: the wrapper, what it gives, what it keeps.
const chapterTable = `1 | | all
10 | | all but batch
6 | | all but batch
5 | | all but batch
11 | | all but batch
2 | | those in its Caps
3 | | none
4 | its Caps | all
7 | ping | all but batch
8 | reset | all but batch
9 | flush batch | all
12 | until | all`

type row struct{ gives, keeps string }

// chapterRows is the table's columns, by wrapper.
var chapterRows = sync.OnceValue(func() map[int]row {
	rows := map[int]row{}
	for line := range strings.Lines(chapterTable) {
		l := strings.Split(strings.TrimSpace(line), "|")
		op, err := strconv.Atoi(strings.TrimSpace(l[0]))
		if err != nil {
			panic(err)
		}
		rows[op] = row{strings.TrimSpace(l[1]), strings.TrimSpace(l[2])}
	}
	return rows
})

// chapterGives is P9.2.
func chapterGives(w api.Wrap) api.Caps {
	var c api.Caps
	if gives := chapterRows()[w.Op].gives; gives == "its Caps" {
		c = w.Caps
	} else {
		c = set(gives)
	}
	if w.Open {
		c |= 1024
	}
	return c
}

// chapterKeeps is what a wrapper keeps of what the level below shows.
func chapterKeeps(w api.Wrap, below api.Caps) api.Caps {
	below &= 1023
	switch chapterRows()[w.Op].keeps {
	case "all":
		return below
	case "all but batch":
		return below &^ 4
	case "those in its Caps":
		return below & w.Caps
	case "none":
		return 0
	}
	panic("no row")
}

// chapterLevels is P9.1.
func chapterLevels(ch api.Chain) []api.Caps {
	l := []api.Caps{ch.Core.Caps}
	for i, w := range ch.Wraps {
		l = append(l, chapterGives(w)|chapterKeeps(w, l[i]))
	}
	return l
}

func isCap(which int) bool { return which >= 0 && which <= 10 }

// chapterWho is P9.3.
func chapterWho(ch api.Chain, which int) int {
	l := chapterLevels(ch)
	if !isCap(which) || l[len(l)-1]&(1<<which) == 0 {
		return -1
	}
	for k := len(ch.Wraps); k > 0; k-- {
		if chapterGives(ch.Wraps[k-1])&(1<<which) != 0 {
			return k
		}
	}
	return 0
}

// inner is the chain up to level k.
func inner(ch api.Chain, k int) api.Chain { return api.Chain{Core: ch.Core, Wraps: ch.Wraps[:k]} }

// chapterReach is P9.4.
func chapterReach(ch api.Chain, which int) int {
	for k := len(ch.Wraps); k >= 0; k-- {
		if who := chapterWho(inner(ch, k), which); who >= 0 {
			return who
		}
		if k == 0 || !ch.Wraps[k-1].Open {
			return -1
		}
	}
	return -1
}

// chapterLost is P9.5.
func chapterLost(ch api.Chain) api.Caps {
	var c api.Caps
	for which := range 11 {
		if ch.Core.Caps&(1<<which) != 0 && chapterReach(ch, which) != 0 {
			c |= 1 << which
		}
	}
	return c
}

// noCaps is numbers of no capability.
func noCaps() []int {
	l := []int{-1, -2, -10, -64, 11, 12, 31, 32, 33, 63, 64, 65, 1024, math.MaxInt32, math.MinInt32, math.MaxInt, math.MinInt}
	for k := range 11 {
		l = append(l, k+64, k-64, k+32, k-32, k+1<<32)
	}
	return l
}

// asSaid holds all answers about a fit chain against the chapter.
func asSaid(t testing.TB, ch api.Chain) {
	t.Helper()
	want := chapterLevels(ch)
	if got := Levels(ch); !slices.Equal(got, want) || Shown(ch) != want[len(want)-1] {
		t.Fatalf("%+v: levels %s, shown %s, not %s", ch, texts(got), text(Shown(ch)), texts(want))
	}
	for which := -1; which <= 11; which++ {
		if got, want := Who(ch, which), chapterWho(ch, which); got != want {
			t.Fatalf("%+v: Who(%d) %d, not %d", ch, which, got, want)
		}
		if got, want := Reach(ch, which), chapterReach(ch, which); got != want {
			t.Fatalf("%+v: Reach(%d) %d, not %d", ch, which, got, want)
		}
	}
	if got, want := Lost(ch), chapterLost(ch); got != want {
		t.Fatalf("%+v: lost %s, not %s", ch, text(got), text(want))
	}
	for _, w := range ch.Wraps {
		if got, want := Gives(w), chapterGives(w); got != want {
			t.Fatalf("%+v gives %s, not %s", w, text(got), text(want))
		}
	}
}

// properSets is the sets that a core may have.
var properSets = sync.OnceValue(func() []api.Caps {
	var l []api.Caps
	for c := range api.Caps(1024) {
		has := func(word string) bool { return c&set(word) != 0 }
		if (!has("batch") || has("flush")) && (!has("load") || has("save")) && (!has("ack") || has("until")) && (!has("reset") || has("ping")) {
			l = append(l, c)
		}
	}
	return l
})

func store(c api.Caps) api.Core { return api.Core{Op: api.CoStore, Num: 7, Caps: c} }

// wrap is a wrapper as its row of chapter 8 has it; its set is one of mask and give alone.
func wrap(op int, c api.Caps, open bool) api.Wrap {
	w := api.Wrap{Op: op, Open: open}
	switch op {
	case api.WrMask, api.WrGive:
		w.Caps = c
	case api.WrRetry, api.WrDedup, api.WrMap, api.WrUntil:
		w.A = 3
	case api.WrLimit, api.WrBreaker, api.WrBuffer:
		w.A, w.B = 5, 9
	case api.WrFilter:
		w.Want = api.Want{Op: api.WKind, Num: api.KInt}
	}
	return w
}

// someWraps is each wrapper, Open and not, with some sets.
func someWraps(sets ...api.Caps) []api.Wrap {
	var l []api.Wrap
	for op := 1; op <= 12; op++ {
		for _, open := range []bool{false, true} {
			if op != api.WrMask && op != api.WrGive {
				l = append(l, wrap(op, 0, open))
				continue
			}
			for _, c := range sets {
				l = append(l, wrap(op, c, open))
			}
		}
	}
	return l
}

func randomWrap(r *rand.Rand) api.Wrap {
	c := 1 + api.Caps(r.IntN(1023))
	if r.IntN(2) == 0 {
		c = 1 << r.IntN(10)
	}
	return wrap(1+r.IntN(12), c, r.IntN(3) > 0)
}

// randomChain is a fit chain.
func randomChain(t testing.TB, r *rand.Rand, most int) api.Chain {
	ch := api.Chain{Core: store(pick(r, properSets()...))}
	if r.IntN(2) == 0 {
		ch.Core = api.Core{Op: api.CoEcho, Caps: ch.Core.Caps &^ set("save load")}
	}
	for range r.IntN(most + 1) {
		ch.Wraps = append(ch.Wraps, randomWrap(r))
	}
	fit(t, ch)
	return ch
}

func fit(t testing.TB, ch api.Chain) {
	t.Helper()
	if !check.Chain(ch) {
		t.Fatalf("%+v is not fit", ch)
	}
}

// chain is the chain of the last handler of a configuration.
func chain(t testing.TB, src string) api.Chain {
	t.Helper()
	p, f := check.Load([]byte(src))
	if f.Err != api.OK {
		t.Fatalf("%s: %v", src, f)
	}
	return p.Handlers[len(p.Handlers)-1].Chain
}
