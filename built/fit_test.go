package built

import (
	"slices"
	"strings"
	"testing"

	"conduit/api"
	"conduit/core"
	"conduit/datum"
	"conduit/topic"
)

// chapterFit is P20.1's Fit.
func chapterFit(ch api.Chain, st api.Built) bool {
	if !core.Fit(st.Core) || len(st.Wraps) != len(ch.Wraps) {
		return false
	}
	for i, w := range ch.Wraps {
		has := st.Wraps[i]
		var rest []bool // of the fields, which are zero
		for _, zero := range []bool{has.Limit == api.Limit{}, has.Breaker == api.Breaker{}, len(has.Dedup.Ids) == 0, len(has.Buffer.Msgs) == 0 && has.Buffer.Since == 0, has.Until == 0} {
			rest = append(rest, zero)
		}
		at, fit := -1, true
		switch w.Op {
		case api.WrLimit:
			at, fit = 0, has.Limit.Level >= 0 && has.Limit.Level <= w.A*w.B && tick(has.Limit.Last)
		case api.WrBreaker:
			at, fit = 1, has.Breaker.Fails >= 0 && has.Breaker.Fails <= w.A && has.Breaker.Until >= 0 && has.Breaker.Until <= 2*lastTick
		case api.WrDedup:
			at, fit = 2, len(has.Dedup.Ids) <= int(w.A)
			for k, id := range has.Dedup.Ids {
				fit = fit && !slices.Contains(has.Dedup.Ids[:k], id)
			}
		case api.WrBuffer:
			at, fit = 3, len(has.Buffer.Msgs) < int(w.A) && tick(has.Buffer.Since) && (len(has.Buffer.Msgs) > 0 || has.Buffer.Since == 0)
			for _, m := range has.Buffer.Msgs {
				fit = fit && datum.Valid(m.Body) && topic.Name(m.Topic) && (m.Reply == "" || topic.Name(m.Reply)) && tick(m.At) && tick(m.Until) && m.Hops >= 0 && m.Hops <= 8
			}
		case api.WrUntil:
			at, fit = 4, tick(has.Until)
		}
		if at >= 0 {
			rest[at] = true
		}
		if !fit || slices.Contains(rest, false) {
			return false
		}
	}
	return true
}

func tick(n int64) bool { return n >= 0 && n <= lastTick }

// allChains is two that have each wrapper between them; eight at most may stand in one chain.
func allChains(t *testing.T) []api.Chain {
	return []api.Chain{
		chain(t, "store caps flush, save with through with mask caps save with hide with give caps ping with retry 4 with limit 2 10 with breaker 3 5 with dedup 2"),
		chain(t, "sum with buffer 3 5 with filter when int with map:double with until 9 with dedup 3 with limit 1000000 1000000"),
	}
}

// P20.1: at first there are full buckets, as of that tick, and nothing else.
func TestNew(t *testing.T) {
	for _, now := range []int64{0, 1, 77, lastTick} {
		for _, ch := range append(allChains(t), chain(t, "echo")) {
			want := api.Built{Wraps: make([]api.WrapState, len(ch.Wraps))}
			for i, w := range ch.Wraps {
				if w.Op == api.WrLimit {
					want.Wraps[i].Limit = api.Limit{Level: w.A * w.B, Last: now}
				}
			}
			if st := New(ch, now); !sameState(st, want) || !Fit(ch, st) {
				t.Errorf("%+v: %+v", ch, st)
			}
		}
	}
}

// P20.1: a fit state, and one that has one thing in one field more than it may.
func TestFitEdges(t *testing.T) {
	msg := api.Msg{Id: 1, Topic: "t"}
	for i, c := range []struct {
		config string
		set    func(st *api.Built)
		want   bool
	}{
		{"echo", func(*api.Built) {}, true},
		{"echo", func(st *api.Built) { st.Wraps = []api.WrapState{} }, true},
		{"echo", func(st *api.Built) { st.Wraps = make([]api.WrapState, 1) }, false},
		{"echo with hide", func(st *api.Built) { st.Wraps = nil }, false},
		{"echo with hide", func(st *api.Built) { st.Wraps = make([]api.WrapState, 2) }, false},
		{"echo", func(st *api.Built) { st.Core.Count = 5 }, true},
		{"echo", func(st *api.Built) { st.Core.Count = -1 }, false},
		{"echo", func(st *api.Built) { st.Core.Until = lastTick + 1 }, false},
		{"echo", func(st *api.Built) { st.Core.Last.Kind = 99 }, false},
		{"echo", func(st *api.Built) { st.Core.List = []api.Datum{number(1), number(1)} }, false},
		{"echo with limit 3 7", func(st *api.Built) { st.Wraps[0].Limit = api.Limit{} }, true},
		{"echo with limit 3 7", func(st *api.Built) { st.Wraps[0].Limit = api.Limit{Level: 21, Last: lastTick} }, true},
		{"echo with limit 3 7", func(st *api.Built) { st.Wraps[0].Limit.Level = 22 }, false},
		{"echo with limit 3 7", func(st *api.Built) { st.Wraps[0].Limit.Level = -1 }, false},
		{"echo with limit 3 7", func(st *api.Built) { st.Wraps[0].Limit.Last = -1 }, false},
		{"echo with limit 3 7", func(st *api.Built) { st.Wraps[0].Limit.Last = lastTick + 1 }, false},
		{"echo with breaker 3 7", func(st *api.Built) { st.Wraps[0].Breaker = api.Breaker{Fails: 3, Until: 2 * lastTick} }, true},
		{"echo with breaker 3 7", func(st *api.Built) { st.Wraps[0].Breaker.Fails = 4 }, false},
		{"echo with breaker 3 7", func(st *api.Built) { st.Wraps[0].Breaker.Fails = -1 }, false},
		{"echo with breaker 3 7", func(st *api.Built) { st.Wraps[0].Breaker.Until = -1 }, false},
		{"echo with breaker 3 7", func(st *api.Built) { st.Wraps[0].Breaker.Until = 2*lastTick + 1 }, false},
		{"echo with dedup 3", func(st *api.Built) { st.Wraps[0].Dedup.Ids = []int64{-5, 0, 1 << 62} }, true},
		{"echo with dedup 3", func(st *api.Built) { st.Wraps[0].Dedup.Ids = []int64{} }, true},
		{"echo with dedup 3", func(st *api.Built) { st.Wraps[0].Dedup.Ids = []int64{1, 2, 3, 4} }, false},
		{"echo with dedup 3", func(st *api.Built) { st.Wraps[0].Dedup.Ids = []int64{1, 2, 1} }, false},
		{"echo with buffer 3 0", func(st *api.Built) { st.Wraps[0].Buffer = api.Buffer{Msgs: []api.Msg{msg, msg}, Since: lastTick} }, true},
		{"echo with buffer 3 0", func(st *api.Built) { st.Wraps[0].Buffer = api.Buffer{Msgs: []api.Msg{msg}} }, true},
		{"echo with buffer 3 0", func(st *api.Built) { st.Wraps[0].Buffer = api.Buffer{Msgs: []api.Msg{}} }, true},
		{"echo with buffer 3 0", func(st *api.Built) { st.Wraps[0].Buffer = api.Buffer{Msgs: []api.Msg{msg, msg, msg}} }, false},
		{"echo with buffer 1 0", func(st *api.Built) { st.Wraps[0].Buffer = api.Buffer{Msgs: []api.Msg{msg}} }, false},
		{"echo with buffer 3 0", func(st *api.Built) { st.Wraps[0].Buffer.Since = 1 }, false},
		{"echo with buffer 3 0", func(st *api.Built) { st.Wraps[0].Buffer = api.Buffer{Msgs: []api.Msg{msg}, Since: -1} }, false},
		{"echo with buffer 3 0", func(st *api.Built) { st.Wraps[0].Buffer = api.Buffer{Msgs: []api.Msg{msg}, Since: lastTick + 1} }, false},
		{"echo with until 3", func(st *api.Built) { st.Wraps[0].Until = lastTick }, true},
		{"echo with until 3", func(st *api.Built) { st.Wraps[0].Until = lastTick + 1 }, false},
		{"echo with until 3", func(st *api.Built) { st.Wraps[0].Until = -1 }, false},
	} {
		ch := chain(t, c.config)
		st := New(ch, 0)
		c.set(&st)
		if Fit(ch, st) != c.want || chapterFit(ch, st) != c.want {
			t.Errorf("%d: %s: %v", i, c.config, st)
		}
	}
}

// P20.1: a message that is held is a fit one.
func TestFitMessages(t *testing.T) {
	ch := chain(t, "echo with retry 2 with buffer 3 0")
	for i, c := range []struct {
		m    api.Msg
		want bool
	}{
		{api.Msg{Topic: "t"}, true},
		{api.Msg{Id: -1 << 63, Topic: strings.Repeat("t", 65535), Body: read(t, "[1]"), At: lastTick, Until: lastTick, Reply: "r", Corr: -1, Prio: -9, Hops: 8}, true},
		{api.Msg{}, false},
		{api.Msg{Topic: "a/#"}, false},
		{api.Msg{Topic: strings.Repeat("t", 65536)}, false},
		{api.Msg{Topic: "t", Body: api.Datum{Kind: api.KBool, Int: 2}}, false},
		{api.Msg{Topic: "t", Body: api.Datum{Int: 1}}, false},
		{api.Msg{Topic: "t", At: -1}, false},
		{api.Msg{Topic: "t", At: lastTick + 1}, false},
		{api.Msg{Topic: "t", Until: -1}, false},
		{api.Msg{Topic: "t", Until: lastTick + 1}, false},
		{api.Msg{Topic: "t", Reply: "+"}, false},
		{api.Msg{Topic: "t", Hops: -1}, false},
		{api.Msg{Topic: "t", Hops: 9}, false},
	} {
		for _, l := range [][]api.Msg{{c.m}, {{Topic: "t"}, c.m}, {c.m, {Topic: "t"}}} {
			st := New(ch, 0)
			st.Wraps[1].Buffer = api.Buffer{Msgs: l, Since: 5}
			if Fit(ch, st) != c.want || chapterFit(ch, st) != c.want {
				t.Errorf("%d: %.200v", i, c.m)
			}
		}
	}
}

// P20.1: of each wrapper what is not its own is zero.
func TestFitOtherFields(t *testing.T) {
	uses := map[int]int{api.WrLimit: 0, api.WrBreaker: 1, api.WrDedup: 2, api.WrBuffer: 3, api.WrUntil: 4}
	sets := []func(w *api.WrapState){
		func(w *api.WrapState) { w.Limit.Last = 1 },
		func(w *api.WrapState) { w.Breaker.Fails = 1 },
		func(w *api.WrapState) { w.Dedup.Ids = []int64{1} },
		func(w *api.WrapState) { w.Buffer = api.Buffer{Msgs: []api.Msg{{Topic: "t"}}, Since: 1} },
		func(w *api.WrapState) { w.Until = 1 },
		func(w *api.WrapState) { w.Limit.Level = 1 },
		func(w *api.WrapState) { w.Breaker.Until = 1 },
	}
	for op := 1; op <= 12; op++ {
		ch := api.Chain{Core: api.Core{Op: api.CoEcho}, Wraps: []api.Wrap{wrapWith(op, 3, 3, 1, false)}}
		fitChain(t, ch)
		for i, set := range sets {
			st := New(ch, 0)
			set(&st.Wraps[0])
			at, has := uses[op]
			want := has && []int{0, 1, 2, 3, 4, 0, 1}[i] == at
			if Fit(ch, st) != want || chapterFit(ch, st) != want {
				t.Errorf("%s: %d: %v", wrapWords[op], i, st)
			}
		}
		st := New(ch, 0)
		if st.Wraps[0].Buffer.Since = 1; Fit(ch, st) {
			t.Error(wrapWords[op])
		}
	}
}

// P20.1: any states, fit ones and such that are nearly so, or those of another chain.
func TestFitRandom(t *testing.T) {
	r := newRandom(1)
	fit, unfit := 0, 0
	for range 20000 {
		ch := randomChain(t, r)
		st := randomState(r, ch)
		if !Fit(ch, st) || !chapterFit(ch, st) {
			t.Fatalf("%+v: %+v", ch, st)
		}
		if r.IntN(2) == 0 {
			ch = randomChain(t, r)
		} else if len(ch.Wraps) > 0 {
			slices.Reverse(st.Wraps)
		}
		want := chapterFit(ch, st)
		if Fit(ch, st) != want {
			t.Fatalf("%+v: %+v: %v", ch, st, !want)
		}
		if want {
			fit++
		} else {
			unfit++
		}
	}
	if min(fit, unfit) < 1000 {
		t.Error(fit, unfit)
	}
}
