package shape

import (
	"math"
	"math/rand/v2"
	"slices"
	"strconv"
	"strings"
	"sync"
	"testing"

	"conduit/api"
	"conduit/datum"
)

func newRandom(seed uint64) *rand.Rand { return rand.New(rand.NewPCG(seed, 17)) }

func pick[T any](r *rand.Rand, l ...T) T { return l[r.IntN(len(l))] }

// read is the value of a text.
func read(t testing.TB, s string) api.Datum {
	t.Helper()
	d, e := datum.Parse(s)
	if e != api.OK {
		t.Fatalf("%.100s is no value", s)
	}
	return d
}

var panicWords = strings.Fields("- own assert nil index compare divide error")

// show writes a result, with all that it has.
func show(r api.Result) string {
	var s string
	switch {
	case r.Err == api.OK && r.Has:
		s, r.Has = datum.Print(r.Body), false
		r.Body = api.Datum{}
	case r.Err == api.OK:
		s = "none"
	case r.Err == api.ErrPanic:
		s, r.Panic = "panic "+panicWords[r.Panic.Kind]+" "+strconv.FormatInt(r.Panic.Num, 10), api.Panic{}
	case r.Err == api.ErrMethod:
		s = "no method"
	case r.Err == api.ErrDatum:
		s = "no value"
	default:
		s = "error " + strconv.Itoa(int(r.Err))
	}
	if r.Code != 0 || r.Panic != (api.Panic{}) || r.Has || !datum.Same(r.Body, api.Datum{}) {
		s += " and fields that it has not"
	}
	return s
}

func sameResult(a, b api.Result) bool {
	return a.Err == b.Err && a.Code == b.Code && a.Panic == b.Panic && a.Has == b.Has && datum.Same(a.Body, b.Body)
}

// asSaid holds what Map answers against the chapter.
func asSaid(t testing.TB, op int, topic string, d api.Datum) api.Result {
	t.Helper()
	got, want := Map(op, topic, d), chapterMap(op, topic, d)
	if !sameResult(got, want) {
		t.Fatalf("map %d, %.50q, %.1000s: %.1000s, not %.1000s", op, topic, datum.Print(d), show(got), show(want))
	}
	return got
}

// mapsAsSaid holds what Maps answers against the chapter.
func mapsAsSaid(t testing.TB, ops []int, topic string, d api.Datum) api.Result {
	t.Helper()
	got, want := Maps(ops, topic, d), chapterMaps(ops, topic, d)
	if !sameResult(got, want) {
		t.Fatalf("maps %.100v, %.50q, %.1000s: %.1000s, not %.1000s", ops, topic, datum.Print(d), show(got), show(want))
	}
	return got
}

func kindsAsSaid(t testing.TB, op int, kinds uint32) uint32 {
	t.Helper()
	got, want := Kinds(op, kinds), chapterKinds(op, kinds)
	if got != want {
		t.Fatalf("kinds of map %d of %b: %b, not %b", op, kinds, got, want)
	}
	return got
}

func number(n int64) api.Datum { return api.Datum{Kind: api.KInt, Int: n} }

func text(s string) api.Datum { return api.Datum{Kind: api.KText, Text: s} }

func gives(d api.Datum) api.Result { return api.Result{Has: true, Body: d} }

func panicked(kind int, num int64) api.Result {
	return api.Result{Err: api.ErrPanic, Panic: api.Panic{Kind: kind, Num: num}}
}

// Chapter 1's table of methods, the rows that maps ask for.
var (
	adding  = []int{api.KInt, api.KFloat}
	sized   = []int{api.KText, api.KName, api.KBytes, api.KList, api.KPair, api.KPtr, api.KNoPtr}
	named   = []int{api.KName, api.KKey, api.KErr}
	opening = []int{api.KPtr, api.KNoPtr}
)

// chapterMap is P17.2.
func chapterMap(op int, topic string, d api.Datum) api.Result {
	switch op {
	case api.MapDouble:
		return chapterDouble(d)
	case api.MapList:
		return chapterAround(api.Datum{Kind: api.KList, List: []api.Datum{d}})
	case api.MapOpen:
		return chapterOpen(d)
	case api.MapSize:
		return chapterSize(d)
	case api.MapName:
		return chapterName(d)
	case api.MapNot:
		if d.Kind != api.KBool {
			return panicked(api.PanAssert, int64(d.Kind))
		}
		return gives(api.Datum{Kind: api.KBool, Int: d.Int ^ 1})
	case api.MapPair:
		return chapterAround(api.Datum{Kind: api.KPair, List: []api.Datum{text(topic), d}})
	case api.MapKey:
		if d.Kind == api.KInt {
			return gives(api.Datum{Kind: api.KKey, Int: d.Int})
		}
		if d.Kind == api.KText {
			return gives(api.Datum{Kind: api.KName, Text: d.Text})
		}
		return gives(d)
	}
	return api.Result{Err: api.ErrMethod}
}

// lacks is the panic of an assertion to an interface of one method, which these kinds have.
func lacks(d api.Datum, method int64, have []int) (api.Result, bool) {
	switch {
	case d.Kind == api.KNil:
		return panicked(api.PanAssert, -1), true
	case !slices.Contains(have, d.Kind):
		return panicked(api.PanAssert, method), true
	}
	return api.Result{}, false
}

func chapterDouble(d api.Datum) api.Result {
	if r, is := lacks(d, api.MAdd, adding); is {
		return r
	}
	if d.Kind == api.KInt {
		return gives(number(int64(uint64(d.Int) << 1)))
	}
	x := math.Float64frombits(d.Bits)
	if x != x {
		return gives(api.Datum{Kind: api.KFloat, Bits: 0x7ff8000000000001})
	}
	return gives(api.Datum{Kind: api.KFloat, Bits: math.Float64bits(2 * x)})
}

func chapterOpen(d api.Datum) api.Result {
	if r, is := lacks(d, api.MOpen, opening); is {
		return r
	}
	if d.Kind == api.KNoPtr {
		return panicked(api.PanNil, 0)
	}
	return gives(d.List[0])
}

func chapterSize(d api.Datum) api.Result {
	if !slices.Contains(sized, d.Kind) {
		return api.Result{Err: api.ErrMethod}
	}
	// A pair has two, a box one, a nil pointer none; a text has no places, a list no bytes.
	return gives(number(int64(len(d.Text) + len(d.List))))
}

func chapterName(d api.Datum) api.Result {
	if !slices.Contains(named, d.Kind) {
		return api.Result{Err: api.ErrMethod}
	}
	if d.Kind == api.KKey {
		return gives(text("key " + strconv.FormatInt(d.Int, 10)))
	}
	return gives(text(d.Text))
}

func chapterAround(d api.Datum) api.Result {
	parts, deep := chapterParts(d)
	if parts > 4096 || deep > 16 || d.Kind == api.KPair && len(d.List[0].Text) > 65535 {
		return api.Result{Err: api.ErrDatum}
	}
	return gives(d)
}

func chapterParts(d api.Datum) (parts, deep int) {
	for _, p := range d.List {
		n, below := chapterParts(p)
		parts, deep = parts+n, max(deep, below)
	}
	return parts + 1, deep + 1
}

// chapterMaps is P17.3.
func chapterMaps(ops []int, topic string, d api.Datum) api.Result {
	if len(ops) == 0 {
		return gives(d)
	}
	r := chapterMap(ops[0], topic, d)
	if r.Err != api.OK {
		return r
	}
	return chapterMaps(ops[1:], topic, r.Body)
}

// chapterKinds is P17.4: what comes of each kind, by the table.
func chapterKinds(op int, kinds uint32) (out uint32) {
	for k := range 14 {
		if kinds&(1<<k) != 0 {
			for _, to := range kindsOf(op, k) {
				out |= 1 << to
			}
		}
	}
	return out
}

func kindsOf(op, k int) []int {
	some := func(is bool, to ...int) []int {
		if is {
			return to
		}
		return nil
	}
	switch op {
	case api.MapDouble:
		return some(slices.Contains(adding, k), k)
	case api.MapList:
		return []int{api.KList}
	case api.MapOpen:
		return some(k == api.KPtr, 0, 1, 2, 3, 4, 5, 6, 7, 8, 9, 10, 11, 12, 13)
	case api.MapSize:
		return some(slices.Contains(sized, k), api.KInt)
	case api.MapName:
		return some(slices.Contains(named, k), api.KText)
	case api.MapNot:
		return some(k == api.KBool, api.KBool)
	case api.MapPair:
		return []int{api.KPair}
	case api.MapKey:
		if k == api.KInt || k == api.KText {
			return []int{k + 1}
		}
		return []int{k}
	}
	return nil
}

// anyOps is the maps, and numbers that are none.
func anyOps() []int {
	l := []int{math.MinInt, math.MinInt + 1, -1 << 32, -1, api.NumMaps, 99, 1<<32 + api.MapList, math.MaxInt}
	for op := range api.NumMaps {
		l = append(l, op)
	}
	return l
}

// valueTexts are values of each kind, and of kinds within others.
var valueTexts = []string{
	"nil", "0", "1", "-1", "5", "9223372036854775807", "-9223372036854775808", "4611686018427387904", "#0", "#7", "#-7", "#-9223372036854775808",
	"f0000000000000000", "f8000000000000000", "f0000000000000001", "f3ff0000000000000", "fbff0000000000000", "f7fefffffffffffff", "f7ff8000000000001", "f7ff8000000000002", "f7ff0000000000001", "ffff8000000000000", "f7ff0000000000000", "ffff0000000000000",
	`""`, `"a"`, `"key 7"`, `"\x00\xff"`, `@""`, `@"a"`, `@"\xff\""`, "true", "false", "%", "%00", "%00ff", `!0""`, `!3""`, `!-3"a"`, `!5"ab"`, "&nil", "{}",
	"[]", "[1]", "[1, 2]", "[nil]", "[[1], &nil]", "&1(5)", "&1(nil)", "&1(#5)", "&2(f3ff0000000000000)", `&2("ab")`, `&2(@"n")`, "&3(true)", "&3(%01)", "&4([1, [2]])", "&4((1, [2]))", `&5(!3"e")`, "&5(&6(&nil))", "&2(&nil)", "&2({})", "&9223372036854775807(nil)",
	"(1, 2)", "(nil, nil)", "(1, [2])", "(&1(5), (2, [3]))",
}

var values = sync.OnceValue(func() []api.Datum {
	var l []api.Datum
	for _, s := range valueTexts {
		d, e := datum.Parse(s)
		if e != api.OK {
			panic(s)
		}
		l = append(l, d)
	}
	return l
})

// nested is d in so many more lists, pairs and boxes, one in another.
func nested(d api.Datum, more int) api.Datum {
	for i := range more {
		switch i % 3 {
		case 0:
			d = api.Datum{Kind: api.KPtr, Int: 4, List: []api.Datum{d}}
		case 1:
			d = api.Datum{Kind: api.KPair, List: []api.Datum{d, text("p")}}
		default:
			d = api.Datum{Kind: api.KList, List: []api.Datum{number(1), d}}
		}
	}
	return d
}

// wide is a list of so many parts, itself among them.
func wide(parts int) api.Datum {
	d := api.Datum{Kind: api.KList}
	for i := range parts - 1 {
		d.List = append(d.List, number(int64(i)))
	}
	return d
}

func copied(d api.Datum) api.Datum {
	d.List = slices.Clone(d.List)
	for i := range d.List {
		d.List[i] = copied(d.List[i])
	}
	return d
}

func randomValue(r *rand.Rand, deep int) api.Datum {
	if r.IntN(20) == 0 {
		return api.Datum{Kind: api.KNoPtr}
	}
	if deep > 1 {
		switch r.IntN(6) {
		case 0:
			d := api.Datum{Kind: api.KList}
			for range r.IntN(5) {
				d.List = append(d.List, randomValue(r, deep-1))
			}
			return d
		case 1:
			return api.Datum{Kind: api.KPair, List: []api.Datum{randomValue(r, deep-1), randomValue(r, deep-1)}}
		case 2, 3:
			return api.Datum{Kind: api.KPtr, Int: pick[int64](r, 1, 2, 9), List: []api.Datum{randomValue(r, deep-1)}}
		}
	}
	return copied(pick(r, values()...))
}

// randomOps is a row of maps, most of which go on; at times there is one that is none.
func randomOps(r *rand.Rand) []int {
	var l []int
	for range r.IntN(8) {
		op := pick(r, api.MapList, api.MapOpen, api.MapPair, api.MapKey, 1+r.IntN(api.NumMaps-1))
		if r.IntN(40) == 0 {
			op = pick(r, anyOps()...)
		}
		l = append(l, op)
	}
	return l
}

func randomTopic(r *rand.Rand) string { return pick(r, "", "t", "a/b", "$sys", "\x00\xff", "#") }
