package built

import (
	"math"
	"slices"
	"testing"
	"unsafe"

	"conduit/api"
)

// Every call ends and none panics, at chains, states and numbers of which nothing else is promised too.
func TestAnyNumbers(t *testing.T) {
	numbers := []int64{math.MinInt64, -1, 0, 1, 5000, lastTick + 1, math.MaxInt64}
	odd := api.Msg{Topic: "#", Body: api.Datum{Kind: -5, List: make([]api.Datum, 3)}, At: -1, Hops: -7}
	for op := -1; op <= 14; op++ {
		for _, a := range numbers {
			w := api.Wrap{Op: op, A: a, B: a, Caps: api.Caps(a), Open: a > 0}
			for _, wraps := range [][]api.Wrap{nil, {w}, {w, w}, slices.Repeat([]api.Wrap{w}, 12)} {
				ch := api.Chain{Core: api.Core{Op: api.CoFail, Caps: 1<<11 - 1}, Wraps: wraps}
				for _, places := range []int{0, 1, 13} {
					st := api.Built{Wraps: make([]api.WrapState, places)}
					for i := range st.Wraps {
						st.Wraps[i] = api.WrapState{Limit: api.Limit{Level: a, Last: -a}, Breaker: api.Breaker{Fails: a, Until: a}, Dedup: api.Dedup{Ids: []int64{1, 1}}, Buffer: api.Buffer{Msgs: []api.Msg{odd, odd}, Since: a}, Until: a}
					}
					New(ch, a)
					Fit(ch, st)
					Handle(ch, st, odd, a)
					Tick(ch, st, a)
					for which := -1; which <= 11; which++ {
						Call(ch, st, which, odd.Body, a, false)
						Call(ch, st, which, api.Datum{Kind: api.KList, List: []api.Datum{odd.Body}}, a, true)
					}
					Next(ch, st)
					Held(st)
				}
			}
		}
	}
}

// roomy is a list in memory with spare room on both sides, where something else stands.
func roomy[T any](l []T, spare T) []T {
	out := slices.Repeat([]T{spare}, len(l)+3)
	copy(out[1:], l)
	return out[1 : len(l)+1]
}

var (
	spareValue = api.Datum{Kind: api.KText, Text: "spare"}
	spareMsg   = api.Msg{Topic: "spare"}
	spareWrap  = api.WrapState{Until: 77}
)

func roomyValue(d api.Datum) api.Datum {
	d.List = roomyList(d.List)
	return d
}

func roomyList(l []api.Datum) []api.Datum {
	l = roomy(l, spareValue)
	for i := range l {
		l[i] = roomyValue(l[i])
	}
	return l
}

func roomyState(st api.Built) api.Built {
	st.Core.Last, st.Core.List = roomyValue(st.Core.Last), roomyList(st.Core.List)
	st.Wraps = roomy(st.Wraps, spareWrap)
	for i := range st.Wraps {
		w := &st.Wraps[i]
		w.Dedup.Ids = roomy(w.Dedup.Ids, 77)
		w.Buffer.Msgs = roomy(w.Buffer.Msgs, spareMsg)
		for k := range w.Buffer.Msgs {
			w.Buffer.Msgs[k].Body = roomyValue(w.Buffer.Msgs[k].Body)
		}
	}
	return st
}

func (c call) roomy() call {
	c.st, c.m.Body, c.arg = roomyState(c.st), roomyValue(c.m.Body), roomyValue(c.arg)
	c.ch.Wraps = roomy(c.ch.Wraps, api.Wrap{Op: 77})
	for i := range c.ch.Wraps {
		c.ch.Wraps[i].Want.List = roomy(c.ch.Wraps[i].Want.List, api.Want{Op: 77})
	}
	return c
}

// list is one that lies somewhere: where, and how what lies there is told apart and written over, spare room too.
type list struct {
	begin, end uintptr
	spared     func() bool
	spoil      func()
}

func listOf[T any](l []T, isSpare func(x T) bool) list {
	var x T
	all := l[:cap(l)]
	begin := uintptr(unsafe.Pointer(unsafe.SliceData(all)))
	return list{
		begin, begin + uintptr(len(all))*unsafe.Sizeof(x),
		func() bool { return !slices.ContainsFunc(all[len(l):], func(x T) bool { return !isSpare(x) }) },
		func() {
			for i := range all {
				all[i] = x
			}
		},
	}
}

// listsOfValues is these, and all lists that lie within them.
func listsOfValues(l []api.Datum) []list {
	out := []list{listOf(l, func(d api.Datum) bool { return d.Text == "spare" })}
	for _, d := range l {
		out = append(out, listsOfValues(d.List)...)
	}
	return out
}

func listsOfMsgs(l []api.Msg) []list {
	out := []list{listOf(l, func(m api.Msg) bool { return m.Topic == "spare" })}
	for _, m := range l {
		out = append(out, listsOfValues(m.Body.List)...)
	}
	return out
}

func listsOfState(st api.Built) []list {
	out := append(listsOfValues(st.Core.List), listsOfValues(st.Core.Last.List)...)
	out = append(out, listOf(st.Wraps, func(w api.WrapState) bool { return w.Until == 77 }))
	for _, w := range st.Wraps {
		out = append(out, listOf(w.Dedup.Ids, func(id int64) bool { return id == 77 }))
		out = append(out, listsOfMsgs(w.Buffer.Msgs)...)
	}
	return out
}

func (c call) lists() []list {
	out := append(listsOfState(c.st), listsOfValues(c.m.Body.List)...)
	out = append(out, listsOfValues(c.arg.List)...)
	out = append(out, listOf(c.ch.Wraps, func(w api.Wrap) bool { return w.Op == 77 }))
	for _, w := range c.ch.Wraps {
		out = append(out, listOf(w.Want.List, func(w api.Want) bool { return w.Op == 77 }))
	}
	return out
}

func (x told) lists() []list {
	out := append(listsOfState(x.st), listsOfValues(x.result.Body.List)...)
	out = append(out, listOf(x.done, func(api.Done) bool { return true }))
	for _, d := range x.done {
		out = append(out, listsOfValues(d.Result.Body.List)...)
	}
	return out
}

func (x told) copied() told {
	x.st, x.done = copied(x.st), slices.Clone(x.done)
	x.result.Body = copiedValue(x.result.Body)
	for i := range x.done {
		x.done[i].Result.Body = copiedValue(x.done[i].Result.Body)
	}
	return x
}

// apart tells whether no two lists share memory, spare room too.
func apart(l []list) bool {
	l = slices.DeleteFunc(l, func(x list) bool { return x.begin == x.end })
	slices.SortFunc(l, func(a, b list) int { return int(a.begin) - int(b.begin) })
	for i := range len(l) - 1 {
		if l[i].end > l[i+1].begin {
			return false
		}
	}
	return true
}

func sameCall(a, b call) bool {
	sameWraps := slices.EqualFunc(a.ch.Wraps, b.ch.Wraps, func(x, y api.Wrap) bool {
		return x.Op == y.Op && x.A == y.A && x.B == y.B && len(x.Want.List) == len(y.Want.List)
	})
	values := func(c call) told { return told{result: gave(api.Datum{List: []api.Datum{c.m.Body, c.arg}})} }
	return sameWraps && sameState(a.st, b.st) && sameTold(values(a), values(b))
}

// 0.3, 0.4, 0.8: what is handed in stays as it is, spare room too, and is not kept; what is handed out is new memory, no two lists of it share any; what was answered does not hang on what becomes of either.
func TestMemory(t *testing.T) {
	r := newRandom(12)
	for range 20000 {
		ch := randomChain(t, r)
		c := randomCall(r, ch, randomState(r, ch))
		in := c.roomy()
		x := in.ask()
		was := x.copied()
		if !sameCall(in, c) || slices.ContainsFunc(in.lists(), func(l list) bool { return !l.spared() }) {
			t.Fatalf("%v became %v", c, in)
		}
		if !apart(append(in.lists(), x.lists()...)) {
			t.Fatalf("%v: two lists share memory", c)
		}
		for _, l := range in.lists() {
			l.spoil()
		}
		if !sameTold(x, was) {
			t.Fatalf("%v: what was answered changed with what was handed in", c)
		}
		for _, l := range x.lists() {
			l.spoil()
		}
		if again := c.ask(); !sameTold(again, was) {
			t.Fatalf("%v: %v, then %v", c, was, again)
		}
	}
}

// 0.4: Held, Next, Fit and New leave what is handed in, and what Held hands out is new memory.
func TestStatesHandedIn(t *testing.T) {
	r := newRandom(13)
	for range 5000 {
		ch := randomChain(t, r)
		c := call{ch: ch, st: randomState(r, ch)}
		in := c.roomy()
		held := Held(in.st)
		Next(in.ch, in.st)
		if !Fit(in.ch, in.st) || !sameCall(in, c) || slices.ContainsFunc(in.lists(), func(l list) bool { return !l.spared() }) {
			t.Fatalf("%v became %v", c, in)
		}
		all := append(in.lists(), listsOfMsgs(held)...)
		if !apart(append(all, listsOfState(New(in.ch, 5))...)) {
			t.Fatalf("%v: two lists share memory", c)
		}
	}
}

// 0.8: lists that are empty are the same as nil ones.
func TestNilAndEmpty(t *testing.T) {
	ch := chain(t, "store with dedup 3 with buffer 3 5 with limit 2 2")
	st := New(ch, 0)
	empty := copied(st)
	empty.Core.List, empty.Core.Last.List = []api.Datum{}, []api.Datum{}
	for i := range empty.Wraps {
		empty.Wraps[i].Dedup.Ids, empty.Wraps[i].Buffer.Msgs = []int64{}, []api.Msg{}
	}
	if !Fit(ch, st) || !Fit(ch, empty) {
		t.Error(st, empty)
	}
	r := newRandom(14)
	for range 1000 {
		a := randomCall(r, ch, st)
		b := a
		b.st = empty
		if x, y := a.asSaid(t), b.asSaid(t); !sameTold(x, y) {
			t.Fatalf("%v: %v, and %v", a, x, y)
		}
	}
}

// callsOf makes a fit chain and calls of it of any bytes.
func callsOf(b []byte) (api.Chain, []call) {
	next := func() int {
		if len(b) == 0 {
			return 0
		}
		n := int(b[0])
		b = b[1:]
		return n
	}
	ch := api.Chain{Core: coreWith(1+next()%12, int64(int8(next())), 1023)}
	for range next() % 6 {
		ch.Wraps = append(ch.Wraps, wrapWith(1+next()%12, int64(next()), int64(next()), api.Caps(next()<<3|next()), next()%2 == 0))
	}
	value := func() api.Datum {
		l := leaves()
		n := next()
		if n < 200 {
			return copiedValue(l[n%len(l)])
		}
		d := api.Datum{Kind: api.KList}
		for range n % 4 {
			d.List = append(d.List, copiedValue(l[next()%len(l)]))
		}
		return d
	}
	var l []call
	for len(b) > 0 && len(l) < 40 {
		n := next()
		c := call{ch: ch, what: []int{callHandle, callHandle, callTick, callCap}[n%4], which: n / 4 % 12, deep: n >= 128, now: int64(next() % 16)}
		switch c.what {
		case callHandle:
			c.m = api.Msg{Id: int64(n / 4 % 8), Topic: "t", At: int64(next() % 16), Body: value()}
		case callCap:
			c.arg = value()
		}
		l = append(l, c)
	}
	return ch, l
}

// FuzzCalls looks for rows of calls of a chain of which something else comes than the chapter says.
func FuzzCalls(f *testing.F) {
	f.Add([]byte{1, 0, 1, 8, 1, 0, 0, 0, 1, 0, 0, 0, 1, 4, 0, 0, 1, 3, 0, 1})
	f.Add([]byte{6, 3, 2, 4, 3, 0, 0, 0, 1, 6, 1, 3, 0, 0, 1, 0, 0, 0, 1, 4, 0, 0, 1, 19, 0, 1})
	r := newRandom(15)
	for range 40 {
		b := make([]byte, 150)
		for i := range b {
			b[i] = byte(r.IntN(256))
		}
		f.Add(b)
	}
	f.Fuzz(func(t *testing.T, b []byte) {
		ch, l := callsOf(b)
		fitChain(t, ch)
		st := New(ch, 0)
		for _, c := range l {
			c.st = st
			st = c.asSaid(t).st
			if !chapterFit(ch, st) {
				t.Fatalf("%v: %v is not fit", c, st)
			}
		}
	})
}
