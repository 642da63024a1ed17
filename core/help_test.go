package core

import (
	"math/rand/v2"
	"slices"
	"strconv"
	"strings"
	"sync"
	"testing"

	"conduit/api"
	"conduit/check"
	"conduit/datum"
)

const top = 4611686018427387904 // 2^62

func newRandom(seed uint64) *rand.Rand { return rand.New(rand.NewPCG(seed, 10)) }

func pick[T any](r *rand.Rand, l ...T) T { return l[r.IntN(len(l))] }

// read is the value of a text.
func read(t testing.TB, s string) api.Datum {
	t.Helper()
	d, e := datum.Parse(s)
	if e != api.OK {
		t.Fatalf("%.100s is no value", s)
	}
	return d
}

func readAll(t testing.TB, texts ...string) []api.Datum {
	t.Helper()
	var l []api.Datum
	for _, s := range texts {
		l = append(l, read(t, s))
	}
	return l
}

// coreOf is a core as a configuration writes it.
func coreOf(t testing.TB, s string) api.Core {
	t.Helper()
	p, f := check.Load([]byte("handler a = " + s + ";"))
	if f.Err != api.OK {
		t.Fatalf("%s: %v", s, f)
	}
	return p.Handlers[0].Chain.Core
}

func int64Of(t testing.TB, s string) int64 {
	t.Helper()
	n, err := strconv.ParseInt(s, 10, 64)
	if err != nil {
		t.Fatal(err)
	}
	return n
}

var (
	capWords   = strings.Fields("flush close batch ack ping reset save load name until")
	coreWords  = strings.Fields("- echo count store sum size unbox fail panic nth none mute less")
	panicWords = strings.Fields("- own assert nil index compare divide error")
)

// show writes a result, with all that it has.
func show(r api.Result) string {
	var s string
	switch {
	case r.Err == api.OK && r.Has:
		s, r.Has = datum.Print(r.Body), false
		r.Body = api.Datum{}
	case r.Err == api.OK:
		s = "none"
	case r.Err == api.ErrHandler:
		s, r.Code = "code "+strconv.FormatInt(r.Code, 10), 0
	case r.Err == api.ErrPanic:
		s, r.Panic = "panic "+panicWords[r.Panic.Kind]+" "+strconv.FormatInt(r.Panic.Num, 10), api.Panic{}
	default:
		s = "error " + strconv.Itoa(int(r.Err))
	}
	if r.Code != 0 || r.Panic != (api.Panic{}) || r.Has || !datum.Same(r.Body, api.Datum{}) {
		s += " and fields that it has not"
	}
	return s
}

// play makes a core do things, one after another, from a state on, and holds what it answers against what is written and against the chapter. "V => R" handles the body V; "C: V => R" calls the capability C with V; "at N" is the tick from then on.
func play(t *testing.T, core string, st api.CoreState, steps ...string) api.CoreState {
	t.Helper()
	co, now := coreOf(t, core), int64(0)
	for _, step := range steps {
		if at, ok := strings.CutPrefix(step, "at "); ok {
			now = int64Of(t, at)
			continue
		}
		what, want, ok := strings.Cut(step, " => ")
		if !ok {
			t.Fatalf("%s is no step", step)
		}
		c := call{co: co, st: st, which: -1, now: now}
		if word, arg, ok := strings.Cut(what, ": "); ok && slices.Contains(capWords, word) {
			c.which, what = slices.Index(capWords, word), arg
		}
		c.arg = read(t, what)
		next, r := c.asSaid(t)
		if got := show(r); got != want {
			t.Errorf("%s: %s: %s", core, step, got)
		}
		st = next
	}
	return st
}

// call is one call of Handle, or of Call.
type call struct {
	co    api.Core
	st    api.CoreState
	which int // -1: a body is handled
	arg   api.Datum
	now   int64
}

func (c call) done() (api.CoreState, api.Result) {
	if c.which < 0 {
		return Handle(c.co, c.st, c.arg, c.now)
	}
	return Call(c.co, c.st, c.which, c.arg, c.now)
}

func (c call) chapter() (api.CoreState, api.Result) {
	if c.which < 0 {
		return chapterHandle(c.co, c.st, c.arg, c.now)
	}
	return chapterCall(c.co, c.st, c.which, c.arg, c.now)
}

// asSaid holds what a call answers against the chapter, and against P10.6 and P10.8.
func (c call) asSaid(t testing.TB) (api.CoreState, api.Result) {
	t.Helper()
	st, r := c.done()
	want, result := c.chapter()
	if !sameState(st, want) || !sameResult(r, result) {
		t.Fatalf("%.1000v:\n%.1000v %s, not\n%.1000v %s", c, st, show(r), want, show(result))
	}
	if !Fit(st) {
		t.Fatalf("%.1000v: %.1000v is not fit", c, st)
	}
	if c.which < 0 && r.Err != api.OK && !sameState(st, c.st) {
		t.Fatalf("%.1000v: %s, but %.1000v", c, show(r), st)
	}
	return st, r
}

func sameState(a, b api.CoreState) bool {
	return a.Count == b.Count && a.Acked == b.Acked && a.Closed == b.Closed && a.Until == b.Until && datum.Same(a.Last, b.Last) && slices.EqualFunc(a.List, b.List, datum.Same)
}

func sameResult(a, b api.Result) bool {
	return a.Err == b.Err && a.Code == b.Code && a.Panic == b.Panic && a.Has == b.Has && datum.Same(a.Body, b.Body)
}

func number(n int64) api.Datum { return api.Datum{Kind: api.KInt, Int: n} }

func bool01(is bool) int64 {
	if is {
		return 1
	}
	return 0
}

func gave(d api.Datum) api.Result { return api.Result{Has: true, Body: d} }

func gaveBool(is bool) api.Result { return gave(api.Datum{Kind: api.KBool, Int: bool01(is)}) }

func refused(e api.Errno) api.Result { return api.Result{Err: e} }

func code(n int64) api.Result { return api.Result{Err: api.ErrHandler, Code: n} }

func panicked(kind int, num int64) api.Result {
	return api.Result{Err: api.ErrPanic, Panic: api.Panic{Kind: kind, Num: num}}
}

func ownPanic(num int64) api.Result {
	if num >= 0 {
		return panicked(api.PanOwn, num)
	}
	return panicked(api.PanError, num)
}

// Chapter 1's table, but for what no core asks.
var (
	sized   = []int{api.KText, api.KName, api.KBytes, api.KList, api.KPair, api.KPtr, api.KNoPtr}
	ordered = []int{api.KInt, api.KKey, api.KFloat, api.KText, api.KName}
	adding  = []int{api.KInt, api.KFloat}
)

func mayBeKey(d api.Datum) bool {
	switch d.Kind {
	case api.KBytes, api.KList:
		return false
	case api.KPair:
		return mayBeKey(d.List[0]) && mayBeKey(d.List[1])
	}
	return true
}

func sameKey(a, b api.Datum) bool {
	is, e := datum.Equal(a, b)
	return is && e == api.OK
}

// copied is a state of its own memory.
func copied(st api.CoreState) api.CoreState {
	st.Last, st.List = copiedValue(st.Last), copiedList(st.List)
	return st
}

func copiedValue(d api.Datum) api.Datum {
	d.List = copiedList(d.List)
	return d
}

func copiedList(l []api.Datum) []api.Datum {
	l = slices.Clone(l)
	for i := range l {
		l[i] = copiedValue(l[i])
	}
	return l
}

func chapterMore(n int64) int64 {
	if n == top {
		return n
	}
	return n + 1
}

// chapterHandle is P10.1.
func chapterHandle(co api.Core, st api.CoreState, d api.Datum, now int64) (api.CoreState, api.Result) {
	st = copied(st)
	switch {
	case st.Closed:
		return st, refused(api.ErrClosed)
	case st.Until > 0 && now > st.Until:
		return st, refused(api.ErrLate)
	}
	switch co.Op {
	case api.CoEcho:
		return st, gave(d)
	case api.CoCount:
		st.Count = chapterMore(st.Count)
		return st, gave(number(st.Count))
	case api.CoStore:
		return chapterStore(co, st, d)
	case api.CoSum:
		return chapterSum(st, d)
	case api.CoSize:
		if !slices.Contains(sized, d.Kind) {
			return st, code(3)
		}
		n, _ := datum.Length(d)
		return st, gave(number(int64(n)))
	case api.CoOpen:
		return st, chapterOpen(d)
	case api.CoFail:
		return st, code(co.Num)
	case api.CoPanic:
		return st, ownPanic(co.Num)
	case api.CoNth:
		return st, chapterNth(co, d)
	case api.CoNone:
		return st, refused(api.ErrTyped)
	case api.CoMute:
		return st, api.Result{}
	case api.CoLess:
		return chapterLess(st, d)
	}
	panic("no core")
}

func chapterStore(co api.Core, st api.CoreState, d api.Datum) (api.CoreState, api.Result) {
	if !mayBeKey(d) {
		return st, panicked(api.PanCompare, 0)
	}
	for i, x := range st.List {
		if sameKey(x, d) {
			return st, gave(number(int64(i)))
		}
	}
	n := int64(len(st.List))
	if co.Num > 0 && n >= co.Num {
		return st, code(1)
	}
	st.List = append(st.List, d)
	return st, gave(number(n))
}

func chapterSum(st api.CoreState, d api.Datum) (api.CoreState, api.Result) {
	if !slices.Contains(adding, d.Kind) {
		return st, code(2)
	}
	last := d
	if st.Count != 0 {
		sum, e := datum.Add(st.Last, d)
		if e != api.OK {
			return st, panicked(api.PanAssert, int64(d.Kind))
		}
		last = sum
	}
	st.Last, st.Count = last, chapterMore(st.Count)
	return st, gave(last)
}

func chapterLess(st api.CoreState, d api.Datum) (api.CoreState, api.Result) {
	if !slices.Contains(ordered, d.Kind) {
		return st, code(4)
	}
	is, e := false, api.OK
	if st.Count != 0 {
		is, e = datum.Less(st.Last, d)
	}
	if e != api.OK {
		return st, panicked(api.PanAssert, int64(d.Kind))
	}
	st.Last, st.Count = d, chapterMore(st.Count)
	return st, gaveBool(is)
}

func chapterOpen(d api.Datum) api.Result {
	switch d.Kind {
	case api.KNil:
		return panicked(api.PanAssert, -1)
	case api.KNoPtr:
		return panicked(api.PanNil, 0)
	case api.KPtr:
		return gave(d.List[0])
	}
	return panicked(api.PanAssert, api.MOpen)
}

func chapterNth(co api.Core, d api.Datum) api.Result {
	if d.Kind != api.KList {
		return panicked(api.PanAssert, int64(d.Kind))
	}
	for i, p := range d.List {
		if int64(i) == co.Num {
			return gave(p)
		}
	}
	return panicked(api.PanIndex, co.Num)
}

// chapterCall is P10.2.
func chapterCall(co api.Core, st api.CoreState, which int, arg api.Datum, now int64) (api.CoreState, api.Result) {
	st = copied(st)
	if which < 0 || which > 10 || co.Caps&(1<<which) == 0 {
		return st, refused(api.ErrShown)
	}
	word := capWords[which]
	if st.Closed && slices.Contains([]string{"flush", "close", "ping"}, word) {
		return st, refused(api.ErrClosed)
	}
	wrong := panicked(api.PanAssert, int64(arg.Kind))
	if word == "batch" && arg.Kind != api.KList || (word == "ack" || word == "until") && arg.Kind != api.KInt {
		return st, wrong
	}
	switch word {
	case "flush":
		n := 0
		if co.Op == api.CoStore {
			n, st.List = len(st.List), nil
		}
		return st, gave(number(int64(n)))
	case "close":
		st.Closed = true
		return st, chapterClose(co)
	case "batch":
		return chapterBatch(co, st, arg, now)
	case "ack":
		st.Acked = chapterMore(st.Acked)
		return st, gave(number(st.Acked))
	case "ping":
		if co.Op == api.CoFail {
			return st, code(co.Num)
		}
		return st, gaveBool(true)
	case "reset":
		return api.CoreState{Closed: st.Closed}, api.Result{}
	case "save":
		d, ok := chapterSave(st)
		if !ok {
			return st, code(5)
		}
		return st, gave(d)
	case "load":
		if back, ok := chapterLoad(arg); ok {
			return back, api.Result{}
		}
		return st, wrong
	case "name":
		return st, gave(api.Datum{Kind: api.KText, Text: coreWords[co.Op]})
	}
	if arg.Int < 0 || arg.Int > 1099511627776 {
		return st, refused(api.ErrRange)
	}
	st.Until = arg.Int
	return st, api.Result{}
}

func chapterClose(co api.Core) api.Result {
	switch co.Op {
	case api.CoFail:
		return code(co.Num)
	case api.CoPanic:
		return ownPanic(co.Num)
	}
	return api.Result{}
}

func chapterBatch(co api.Core, st api.CoreState, arg api.Datum, now int64) (api.CoreState, api.Result) {
	n := 0
	for _, d := range arg.List {
		next, r := chapterHandle(co, st, d, now)
		st = next
		if r.Err == api.OK {
			n++
		}
	}
	return st, gave(number(int64(n)))
}

// chapterFit is P10.3.
func chapterFit(st api.CoreState) bool {
	for _, n := range []int64{st.Count, st.Acked} {
		if n < 0 || n > top {
			return false
		}
	}
	if st.Until < 0 || st.Until > 1099511627776 || !datum.Valid(st.Last) {
		return false
	}
	for i, d := range st.List {
		if !datum.Valid(d) || !mayBeKey(d) || slices.ContainsFunc(st.List[:i], func(x api.Datum) bool { return sameKey(x, d) }) {
			return false
		}
	}
	return true
}

// chapterSave is P10.4's Save: the value is read from a text, which there is none of, if it is not valid.
func chapterSave(st api.CoreState) (api.Datum, bool) {
	var l []string
	for _, d := range st.List {
		l = append(l, datum.Print(d))
	}
	numbers := []string{strconv.FormatInt(st.Count, 10), strconv.FormatInt(st.Acked, 10), strconv.FormatInt(st.Until, 10), strconv.FormatBool(st.Closed)}
	d, e := datum.Parse("([" + strings.Join(numbers, ", ") + "], (" + datum.Print(st.Last) + ", [" + strings.Join(l, ", ") + "]))")
	return d, e == api.OK
}

// at is a part of a value, deep inside; where there is none, the zero value.
func at(d api.Datum, path ...int) api.Datum {
	for _, i := range path {
		if i >= len(d.List) {
			return api.Datum{}
		}
		d = d.List[i]
	}
	return d
}

// chapterLoad is P10.4's Load: a state is taken from where it would stand, and counts if it is saved as that value.
func chapterLoad(d api.Datum) (api.CoreState, bool) {
	st := api.CoreState{Count: at(d, 0, 0).Int, Acked: at(d, 0, 1).Int, Until: at(d, 0, 2).Int, Closed: at(d, 0, 3).Int == 1, Last: at(d, 1, 0), List: at(d, 1, 1).List}
	if !chapterFit(st) {
		return api.CoreState{}, false
	}
	back, ok := chapterSave(st)
	if !ok || !datum.Same(back, d) {
		return api.CoreState{}, false
	}
	return copied(st), true
}

// leafTexts are values without parts, in such a number that the same ones come up often.
var leafTexts = strings.Fields(`nil 0 1 -1 2 9223372036854775807 -9223372036854775808 1099511627776 1099511627777 #0 #1 #-1
f0000000000000000 f8000000000000000 f3ff0000000000000 fbff0000000000000 f7ff8000000000001 f7ff8000000000002 f7ff0000000000000
"" "a" "ab" @"" @"a" @"b" true false % %00ff !0"" !3"" !3"e" &nil {} []`)

var leaves = sync.OnceValue(func() []api.Datum {
	var l []api.Datum
	for _, s := range leafTexts {
		d, e := datum.Parse(s)
		if e != api.OK {
			panic(s)
		}
		l = append(l, d)
	}
	return l
})

func randomList(r *rand.Rand, most, deep int) []api.Datum {
	var l []api.Datum
	for range r.IntN(most + 1) {
		l = append(l, randomValue(r, deep))
	}
	return l
}

func randomValue(r *rand.Rand, deep int) api.Datum {
	if deep > 1 {
		switch r.IntN(6) {
		case 0:
			return api.Datum{Kind: api.KList, List: randomList(r, 4, deep-1)}
		case 1:
			return api.Datum{Kind: api.KPair, List: []api.Datum{randomValue(r, deep-1), randomValue(r, deep-1)}}
		case 2:
			return api.Datum{Kind: api.KPtr, Int: pick[int64](r, 1, 2, 9), List: []api.Datum{randomValue(r, deep-1)}}
		}
	}
	return copiedValue(pick(r, leaves()...))
}

func randomCount(r *rand.Rand) int64 { return pick[int64](r, 0, 0, 0, 1, 2, 7, top-1, top) }

func randomState(r *rand.Rand) api.CoreState {
	st := api.CoreState{Count: randomCount(r), Acked: randomCount(r), Last: randomValue(r, 3), Closed: r.IntN(6) == 0, Until: pick[int64](r, 0, 0, 0, 1, 5, 6, 1099511627776)}
	for _, d := range randomList(r, 6, 3) {
		if mayBeKey(d) && !slices.ContainsFunc(st.List, func(x api.Datum) bool { return sameKey(x, d) }) {
			st.List = append(st.List, d)
		}
	}
	if r.IntN(3) == 0 {
		st.Last = pick(r, number(r.Int64N(5)), api.Datum{Kind: api.KText, Text: "b"}, api.Datum{Kind: api.KFloat, Bits: 1 << 62})
	}
	return st
}

// needs are the capabilities that one can't have without another.
var needs = map[string]string{"batch": "flush", "load": "save", "ack": "until", "reset": "ping"}

// properCaps is c without what it can't have.
func properCaps(op int, c api.Caps) api.Caps {
	if !slices.Contains([]int{api.CoCount, api.CoStore, api.CoSum, api.CoLess}, op) {
		c &^= 1<<api.CapSave | 1<<api.CapLoad
	}
	for word, other := range needs {
		if c&(1<<slices.Index(capWords, other)) == 0 {
			c &^= 1 << slices.Index(capWords, word)
		}
	}
	return c
}

// coreWith is a core with a number, if it may have one.
func coreWith(op int, num int64, c api.Caps) api.Core {
	co := api.Core{Op: op, Caps: properCaps(op, c)}
	switch op {
	case api.CoStore:
		co.Num = max(0, min(num, 1000000))
	case api.CoFail, api.CoPanic, api.CoNth:
		co.Num = num
	}
	return co
}

func randomCore(r *rand.Rand) api.Core {
	c := api.Caps(1023)
	if r.IntN(2) == 0 {
		c = api.Caps(r.IntN(1024))
	}
	return coreWith(1+r.IntN(12), pick[int64](r, 0, 0, 1, 2, 3, -1, 1<<62, -1<<63), c)
}

func randomCall(r *rand.Rand, co api.Core, st api.CoreState) call {
	c := call{co: co, st: st, which: -1, arg: randomValue(r, 3), now: pick[int64](r, 0, 1, 5, 6, 7, 1099511627776)}
	if r.IntN(2) > 0 {
		c.which = r.IntN(10)
	}
	switch c.which {
	case api.CapBatch:
		if r.IntN(4) > 0 {
			c.arg = api.Datum{Kind: api.KList, List: randomList(r, 5, 2)}
		}
	case api.CapAck, api.CapUntil:
		if r.IntN(3) > 0 {
			c.arg = number(pick[int64](r, 0, 1, 5, 6, -1, 1099511627776, 1099511627777))
		}
	case api.CapLoad:
		if d, ok := chapterSave(randomState(r)); ok && r.IntN(4) > 0 {
			c.arg = d
		}
	}
	return c
}

func fitCore(t testing.TB, co api.Core) {
	t.Helper()
	if !check.Chain(api.Chain{Core: co}) {
		t.Fatalf("%+v is no core of a fit chain", co)
	}
}
