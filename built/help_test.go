package built

import (
	"cmp"
	"math/rand/v2"
	"slices"
	"strconv"
	"strings"
	"sync"
	"testing"

	"conduit/api"
	"conduit/check"
	"conduit/datum"
)

const lastTick = 1099511627776 // 2^40

func newRandom(seed uint64) *rand.Rand { return rand.New(rand.NewPCG(seed, 20)) }

func pick[T any](r *rand.Rand, l ...T) T { return l[r.IntN(len(l))] }

var (
	capWords   = strings.Fields("flush close batch ack ping reset save load name until open")
	panicWords = strings.Fields("- own assert nil index compare divide error")
	wrapWords  = strings.Fields("- through mask hide give retry limit breaker dedup buffer filter map until")
	coreWords  = strings.Fields("- echo count store sum size unbox fail panic nth none mute less")
)

// read is the value of a text.
func read(t testing.TB, s string) api.Datum {
	t.Helper()
	d, e := datum.Parse(s)
	if e != api.OK {
		t.Fatalf("%.100s is no value", s)
	}
	return d
}

// chain is what a configuration says of a handler: a core, and its wrappers.
func chain(t testing.TB, s string) api.Chain {
	t.Helper()
	p, f := check.Load([]byte("handler a = " + s + ";"))
	if f.Err != api.OK {
		t.Fatalf("%s: %v", s, f)
	}
	return p.Handlers[0].Chain
}

func fitChain(t testing.TB, ch api.Chain) {
	t.Helper()
	if !check.Chain(ch) {
		t.Fatalf("%+v is not fit", ch)
	}
}

func numberOf(t testing.TB, s string) int64 {
	t.Helper()
	n, err := strconv.ParseInt(s, 10, 64)
	if err != nil {
		t.Fatal(err)
	}
	return n
}

func number(n int64) api.Datum { return api.Datum{Kind: api.KInt, Int: n} }

// show writes a result, with all that it has.
func show(r api.Result) string {
	var s string
	switch {
	case r.Err == api.OK && r.Has:
		s, r.Has = datum.Print(r.Body), false
		r.Body = api.Datum{}
	case r.Err == api.OK:
		s = "none"
	case r.Err == api.ErrHandler:
		s, r.Code = "code "+strconv.FormatInt(r.Code, 10), 0
	case r.Err == api.ErrPanic:
		s, r.Panic = "panic "+panicWords[r.Panic.Kind]+" "+strconv.FormatInt(r.Panic.Num, 10), api.Panic{}
	default:
		s = "error " + strconv.Itoa(int(r.Err))
	}
	if r.Code != 0 || r.Panic != (api.Panic{}) || r.Has || !datum.Same(r.Body, api.Datum{}) {
		s += " and fields that it has not"
	}
	return s
}

// showAll writes results, the last one with "*", if it is a message's own.
func showAll(l []api.Done, own bool) string {
	var s []string
	for _, d := range l {
		s = append(s, strconv.FormatInt(d.Id, 10)+"="+show(d.Result))
	}
	text := cmp.Or(strings.Join(s, ", "), "-")
	if own {
		text += "*"
	}
	return text
}

// call is one call of a chain.
type call struct {
	ch    api.Chain
	st    api.Built
	what  int // callHandle, callTick, callCap
	m     api.Msg
	which int
	arg   api.Datum
	deep  bool
	now   int64
}

const (
	callHandle = iota
	callTick
	callCap
)

// told is all that a call answers.
type told struct {
	st     api.Built
	done   []api.Done
	own    bool
	result api.Result
}

func (x told) String() string {
	s := showAll(x.done, x.own)
	if !sameResult(x.result, api.Result{}) || s == "-" {
		s = show(x.result) + " beside " + s
	}
	return s
}

func (c call) ask() (x told) {
	switch c.what {
	case callHandle:
		x.st, x.done, x.own = Handle(c.ch, c.st, c.m, c.now)
	case callTick:
		x.st, x.done = Tick(c.ch, c.st, c.now)
	default:
		x.st, x.done, x.result = Call(c.ch, c.st, c.which, c.arg, c.now, c.deep)
	}
	return x
}

// asSaid holds what a call answers against the chapter, and the state against P20.8.
func (c call) asSaid(t testing.TB) told {
	t.Helper()
	got, want := c.ask(), c.chapter()
	if !sameTold(got, want) {
		t.Fatalf("%.2000v:\n%.1000v %.1000v, not\n%.1000v %.1000v", c, got.st, got, want.st, want)
	}
	if !Fit(c.ch, got.st) {
		t.Fatalf("%.2000v: %.1000v is not fit", c, got.st)
	}
	at, ok := Next(c.ch, got.st)
	if wantAt, wantOk := chapterNext(c.ch, got.st); at != wantAt || ok != wantOk {
		t.Fatalf("%.2000v: next %d, %v, not %d, %v", c, at, ok, wantAt, wantOk)
	}
	if held := Held(got.st); !slices.EqualFunc(held, chapterHeld(got.st), sameMsg) {
		t.Fatalf("%.2000v: held %.1000v", c, held)
	}
	return got
}

func sameResult(a, b api.Result) bool {
	return a.Err == b.Err && a.Code == b.Code && a.Panic == b.Panic && a.Has == b.Has && datum.Same(a.Body, b.Body)
}

func sameDone(a, b api.Done) bool { return a.Id == b.Id && sameResult(a.Result, b.Result) }

func sameMsg(a, b api.Msg) bool {
	return a.Id == b.Id && a.Topic == b.Topic && datum.Same(a.Body, b.Body) && a.At == b.At && a.Until == b.Until && a.Reply == b.Reply && a.Corr == b.Corr && a.Prio == b.Prio && a.Hops == b.Hops
}

func sameCore(a, b api.CoreState) bool {
	return a.Count == b.Count && a.Acked == b.Acked && a.Closed == b.Closed && a.Until == b.Until && datum.Same(a.Last, b.Last) && slices.EqualFunc(a.List, b.List, datum.Same)
}

func sameWrap(a, b api.WrapState) bool {
	return a.Limit == b.Limit && a.Breaker == b.Breaker && slices.Equal(a.Dedup.Ids, b.Dedup.Ids) && slices.EqualFunc(a.Buffer.Msgs, b.Buffer.Msgs, sameMsg) && a.Buffer.Since == b.Buffer.Since && a.Until == b.Until
}

func sameState(a, b api.Built) bool {
	return sameCore(a.Core, b.Core) && slices.EqualFunc(a.Wraps, b.Wraps, sameWrap)
}

func sameTold(a, b told) bool {
	return sameState(a.st, b.st) && slices.EqualFunc(a.done, b.done, sameDone) && a.own == b.own && sameResult(a.result, b.result)
}

func copiedValue(d api.Datum) api.Datum {
	d.List = copiedList(d.List)
	return d
}

func copiedList(l []api.Datum) []api.Datum {
	l = slices.Clone(l)
	for i := range l {
		l[i] = copiedValue(l[i])
	}
	return l
}

func copiedMsgs(l []api.Msg) []api.Msg {
	l = slices.Clone(l)
	for i := range l {
		l[i].Body = copiedValue(l[i].Body)
	}
	return l
}

func copied(st api.Built) api.Built {
	st.Core.Last, st.Core.List = copiedValue(st.Core.Last), copiedList(st.Core.List)
	st.Wraps = slices.Clone(st.Wraps)
	for i := range st.Wraps {
		w := &st.Wraps[i]
		w.Dedup.Ids, w.Buffer.Msgs = slices.Clone(w.Dedup.Ids), copiedMsgs(w.Buffer.Msgs)
	}
	return st
}

// play makes a chain do things, one after another, from its first state on, and holds what it answers against what is written and against the chapter: "at N" is the tick from then on; "I V => .." handles a message with the number I and the body V, that was published at that tick (or at A: "I@A V"); "tick => .." lets time pass; "C V => R beside .." calls the capability C with V, "deep C V" opens what is open on the way.
func play(t *testing.T, config string, steps ...string) api.Built {
	t.Helper()
	ch := chain(t, config)
	return playFrom(t, ch, New(ch, 0), steps...)
}

func playFrom(t *testing.T, ch api.Chain, st api.Built, steps ...string) api.Built {
	t.Helper()
	now := int64(0)
	for _, step := range steps {
		if at, ok := strings.CutPrefix(step, "at "); ok {
			now = numberOf(t, at)
			continue
		}
		what, want, ok := strings.Cut(step, " => ")
		if !ok {
			t.Fatalf("%s is no step", step)
		}
		c := callOf(t, what, now)
		c.ch, c.st = ch, st
		x := c.asSaid(t)
		got := showAll(x.done, x.own)
		if c.what == callCap {
			got = show(x.result)
			if len(x.done) > 0 {
				got += " beside " + showAll(x.done, false)
			}
		}
		if got != want {
			t.Errorf("%+v: %s: %s", ch, step, got)
		}
		st = x.st
	}
	return st
}

func callOf(t *testing.T, what string, now int64) call {
	t.Helper()
	c := call{now: now}
	if what == "tick" {
		c.what = callTick
		return c
	}
	what, c.deep = strings.CutPrefix(what, "deep ")
	first, rest, _ := strings.Cut(what, " ")
	if c.which = slices.Index(capWords, first); c.which >= 0 {
		c.what, c.arg = callCap, read(t, rest)
		return c
	}
	id, at, ok := strings.Cut(first, "@")
	c.m = api.Msg{Id: numberOf(t, id), Topic: "t", Body: read(t, rest), At: now}
	if ok {
		c.m.At = numberOf(t, at)
	}
	return c
}

// leafTexts are values without parts, in such a number that the same ones come up often.
var leafTexts = strings.Fields(`nil 0 1 -1 2 3 9223372036854775807 1099511627776 1099511627777 #0 #1
f0000000000000000 f8000000000000000 f3ff0000000000000 f7ff8000000000001
"" "a" "ab" @"" @"a" true false % %00ff !0"" !3"e" &nil {} []`)

var leaves = sync.OnceValue(func() []api.Datum {
	var l []api.Datum
	for _, s := range leafTexts {
		d, e := datum.Parse(s)
		if e != api.OK {
			panic(s)
		}
		l = append(l, d)
	}
	return l
})

func randomList(r *rand.Rand, most, deep int) []api.Datum {
	var l []api.Datum
	for range r.IntN(most + 1) {
		l = append(l, randomValue(r, deep))
	}
	return l
}

func randomValue(r *rand.Rand, deep int) api.Datum {
	if deep > 1 {
		switch r.IntN(6) {
		case 0:
			return api.Datum{Kind: api.KList, List: randomList(r, 4, deep-1)}
		case 1:
			return api.Datum{Kind: api.KPair, List: []api.Datum{randomValue(r, deep-1), randomValue(r, deep-1)}}
		case 2:
			return api.Datum{Kind: api.KPtr, Int: pick[int64](r, 1, 2, 9), List: []api.Datum{randomValue(r, deep-1)}}
		}
	}
	if r.IntN(3) == 0 {
		return number(r.Int64N(4))
	}
	return copiedValue(pick(r, leaves()...))
}

func randomTick(r *rand.Rand) int64 {
	if r.IntN(12) == 0 {
		return pick[int64](r, lastTick, lastTick-1, lastTick-r.Int64N(9))
	}
	return r.Int64N(12)
}

// randomMsg is a fit one, with something in each field.
func randomMsg(r *rand.Rand) api.Msg {
	return api.Msg{
		Id: pick(r, r.Int64N(5), r.Int64N(5), int64(r.Uint64())), Topic: pick(r, "a", "a/b", "$s", "/"), Body: randomValue(r, 3),
		At: randomTick(r), Until: randomTick(r), Reply: pick(r, "", "r", "r/1"),
		Corr: int64(r.Uint64()), Prio: r.IntN(9) - 4, Hops: r.IntN(9),
	}
}

// needs are the capabilities that a core can't have without another.
var needs = map[string]string{"batch": "flush", "load": "save", "ack": "until", "reset": "ping"}

// coreWith is a core of a fit chain, with the number and the capabilities of these that it may have.
func coreWith(op int, num int64, c api.Caps) api.Core {
	if !slices.Contains([]int{api.CoCount, api.CoStore, api.CoSum, api.CoLess}, op) {
		c &^= 1<<api.CapSave | 1<<api.CapLoad
	}
	for word, other := range needs {
		if c&(1<<slices.Index(capWords, other)) == 0 {
			c &^= 1 << slices.Index(capWords, word)
		}
	}
	co := api.Core{Op: op, Caps: c}
	switch op {
	case api.CoStore:
		co.Num = max(0, min(num, 1000000))
	case api.CoFail, api.CoPanic, api.CoNth:
		co.Num = num
	}
	return co
}

func randomCore(r *rand.Rand) api.Core {
	op := 1 + r.IntN(12)
	// Those that fail are what many wrappers look for.
	if r.IntN(4) == 0 {
		op = pick(r, api.CoFail, api.CoPanic, api.CoNone, api.CoNth, api.CoStore)
	}
	return coreWith(op, pick[int64](r, 0, 0, 1, 2, 3, -1, 1<<62, -1<<63), pick(r, 0, 1023, api.Caps(r.IntN(1024))))
}

// wrapWith is a wrapper of a fit chain, with small numbers.
func wrapWith(op int, a, b int64, c api.Caps, open bool) api.Wrap {
	w := api.Wrap{Op: op, Open: open}
	switch op {
	case api.WrMask, api.WrGive:
		w.Caps = max(c&1023, 1)
	case api.WrRetry:
		w.A = 1 + a%4
	case api.WrLimit, api.WrBreaker:
		w.A, w.B = 1+a%3, 1+b%6
	case api.WrDedup:
		w.A = 1 + a%4
	case api.WrBuffer:
		w.A, w.B = 1+a%4, b%6
	case api.WrFilter:
		w.Want = somePattern(int(a))
	case api.WrMap:
		w.A = 1 + a%8
	case api.WrUntil:
		w.A = 1 + a%6
	}
	return w
}

func somePattern(n int) api.Want {
	kind := func(k int) api.Want { return api.Want{Op: api.WKind, Num: k} }
	l := []api.Want{
		{Op: api.WAny}, kind(api.KInt), kind(api.KNil), {Op: api.WNot, List: []api.Want{kind(api.KText)}},
		{Op: api.WFace, Num: api.FSized}, {Op: api.WOr, List: []api.Want{kind(api.KInt), {Op: api.WFace, Num: api.FNumber}}},
	}
	return l[n%len(l)]
}

func randomWrap(r *rand.Rand) api.Wrap {
	c := 1 + api.Caps(r.IntN(1023))
	if r.IntN(2) == 0 {
		c = 1 << r.IntN(10)
	}
	op := 1 + r.IntN(12)
	if r.IntN(4) == 0 {
		op = pick(r, api.WrBuffer, api.WrRetry)
	}
	return wrapWith(op, r.Int64N(1000), r.Int64N(1000), c, r.IntN(2) == 0)
}

func randomChain(t testing.TB, r *rand.Rand) api.Chain {
	ch := api.Chain{Core: randomCore(r)}
	for range pick(r, 0, 1, 2, 3, 4, 5, 8) {
		ch.Wraps = append(ch.Wraps, randomWrap(r))
	}
	fitChain(t, ch)
	return ch
}

// randomState is a state that is fit with a chain.
func randomState(r *rand.Rand, ch api.Chain) api.Built {
	st := api.Built{Core: randomCoreState(r)}
	for _, w := range ch.Wraps {
		st.Wraps = append(st.Wraps, randomWrapState(r, w))
	}
	return st
}

func randomCoreState(r *rand.Rand) api.CoreState {
	count := func() int64 { return pick[int64](r, 0, 0, 1, 2, 1<<62-1, 1<<62) }
	st := api.CoreState{Count: count(), Acked: count(), Last: randomValue(r, 3), Closed: r.IntN(8) == 0, Until: pick[int64](r, 0, 0, 0, 1, 5, lastTick)}
	for _, d := range randomList(r, 4, 3) {
		if _, e := datum.Group(append(slices.Clone(st.List), d)); e != api.OK {
			continue
		}
		if !slices.ContainsFunc(st.List, func(x api.Datum) bool { is, _ := datum.Equal(x, d); return is }) {
			st.List = append(st.List, d)
		}
	}
	if r.IntN(2) == 0 {
		st.Last = number(r.Int64N(5))
	}
	return st
}

func randomWrapState(r *rand.Rand, w api.Wrap) (st api.WrapState) {
	switch w.Op {
	case api.WrLimit:
		st.Limit = api.Limit{Level: r.Int64N(w.A*w.B + 1), Last: randomTick(r)}
	case api.WrBreaker:
		st.Breaker = api.Breaker{Fails: r.Int64N(w.A + 1), Until: pick(r, 0, randomTick(r), 2*lastTick)}
	case api.WrDedup:
		for _, id := range r.Perm(5)[:r.Int64N(min(w.A, 5)+1)] {
			st.Dedup.Ids = append(st.Dedup.Ids, int64(id))
		}
	case api.WrBuffer:
		for range r.Int64N(w.A) {
			st.Buffer.Msgs = append(st.Buffer.Msgs, randomMsg(r))
		}
		if len(st.Buffer.Msgs) > 0 {
			st.Buffer.Since = randomTick(r)
		}
	case api.WrUntil:
		st.Until = pick(r, 0, randomTick(r))
	}
	return st
}

// randomCall is one that is often answered.
func randomCall(r *rand.Rand, ch api.Chain, st api.Built) call {
	c := call{ch: ch, st: st, now: randomTick(r)}
	switch r.IntN(8) {
	case 0, 1, 2, 3:
		c.m = randomMsg(r)
		if r.IntN(2) == 0 {
			c.m.At = max(0, c.now-r.Int64N(4))
		}
	case 4:
		c.what = callTick
	default:
		c.what, c.which, c.deep = callCap, r.IntN(11), r.IntN(2) == 0
		c.arg = randomArg(r, c.which)
	}
	return c
}

// randomArg is mostly what a capability takes.
func randomArg(r *rand.Rand, which int) api.Datum {
	if r.IntN(4) == 0 {
		return randomValue(r, 3)
	}
	switch which {
	case api.CapBatch:
		return api.Datum{Kind: api.KList, List: randomList(r, 5, 2)}
	case api.CapAck, api.CapUntil:
		return number(pick[int64](r, 0, 1, 5, 6, -1, lastTick, lastTick+1))
	case api.CapLoad:
		d, _ := datum.Parse(`([2, 3, 0, false], (7, [1, "a"]))`)
		return d
	}
	return randomValue(r, 3)
}
