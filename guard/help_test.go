package guard

import (
	"math/rand/v2"
	"slices"
	"strconv"
	"strings"
	"sync"
	"testing"

	"conduit/api"
	"conduit/datum"
)

func newRandom(seed uint64) *rand.Rand { return rand.New(rand.NewPCG(seed, 11)) }

func pick[T any](r *rand.Rand, l ...T) T { return l[r.IntN(len(l))] }

// read is the value of a text; "" is no value.
func read(t testing.TB, s string) api.Datum {
	t.Helper()
	if s == "" {
		return api.Datum{}
	}
	d, e := datum.Parse(s)
	if e != api.OK {
		t.Fatalf("%.100s is no value", s)
	}
	return d
}

var (
	panicWords = strings.Fields("- own assert nil index compare divide error")
	actWords   = strings.Fields("- give assert face index open compare divide own error size")
)

// show writes a result, with all that it has.
func show(r api.Result) string {
	var s string
	switch {
	case r.Err == api.OK && r.Has:
		s, r.Has = datum.Print(r.Body), false
		r.Body = api.Datum{}
	case r.Err == api.OK:
		s = "none"
	case r.Err == api.ErrPanic:
		s, r.Panic = "panic "+panicWords[r.Panic.Kind]+" "+strconv.FormatInt(r.Panic.Num, 10), api.Panic{}
	case r.Err == api.ErrMethod:
		s = "no method"
	default:
		s = "error " + strconv.Itoa(int(r.Err))
	}
	if r.Code != 0 || r.Panic != (api.Panic{}) || r.Has || !datum.Same(r.Body, api.Datum{}) {
		s += " and fields that it has not"
	}
	return s
}

func showAct(a api.Act) string {
	word := strconv.Itoa(a.Op)
	if a.Op > 0 && a.Op < len(actWords) {
		word = actWords[a.Op]
	}
	return word + " " + datum.Print(a.A) + ", " + datum.Print(a.B) + ", " + strconv.FormatInt(a.N, 10)
}

func sameResult(a, b api.Result) bool {
	return a.Err == b.Err && a.Code == b.Code && a.Panic == b.Panic && a.Has == b.Has && datum.Same(a.Body, b.Body)
}

// asSaid holds what Try answers against the chapter.
func asSaid(t testing.TB, a api.Act) api.Result {
	t.Helper()
	got, want := Try(a), chapterTry(a)
	if !sameResult(got, want) {
		t.Fatalf("%.1000s: %.1000s, not %.1000s", showAct(a), show(got), show(want))
	}
	return got
}

// runAsSaid holds what Run answers against the chapter.
func runAsSaid(t testing.TB, l []api.Act) ([]api.Result, []int) {
	t.Helper()
	results, places := Run(l)
	wantResults, wantPlaces := chapterRun(l)
	if !slices.EqualFunc(results, wantResults, sameResult) {
		t.Fatalf("%d results, not the %d that should come", len(results), len(wantResults))
	}
	if !slices.Equal(places, wantPlaces) {
		t.Fatalf("places %.1000v, not %.1000v", places, wantPlaces)
	}
	return results, places
}

func number(n int64) api.Datum { return api.Datum{Kind: api.KInt, Int: n} }

func gives(d api.Datum) api.Result { return api.Result{Has: true, Body: d} }

func panicked(kind int, num int64) api.Result {
	return api.Result{Err: api.ErrPanic, Panic: api.Panic{Kind: kind, Num: num}}
}

// Chapter 1's table of methods, a row a method.
var kindsWith = [][]int{
	api.MSize:  {api.KText, api.KName, api.KBytes, api.KList, api.KPair, api.KPtr, api.KNoPtr},
	api.MName:  {api.KName, api.KKey, api.KErr},
	api.MError: {api.KErr, api.KPtr, api.KNoPtr},
	api.MOpen:  {api.KPtr, api.KNoPtr},
	api.MLess:  {api.KInt, api.KKey, api.KFloat, api.KText, api.KName},
	api.MAdd:   {api.KInt, api.KFloat},
}

// Chapter 2's interfaces, those that are embedded written out.
var methodsOf = [][]int{
	api.FSized:    {api.MSize},
	api.FNamed:    {api.MName},
	api.FFailing:  {api.MError},
	api.FOpening:  {api.MOpen},
	api.FOrdered:  {api.MLess},
	api.FAdding:   {api.MAdd},
	api.FLabelled: {api.MSize, api.MName},
	api.FMeasured: {api.MSize, api.MLess},
	api.FNumber:   {api.MLess, api.MAdd},
	api.FWhole:    {api.MSize, api.MName, api.MLess},
}

// chapterTry is P11.1.
func chapterTry(a api.Act) api.Result {
	switch a.Op {
	case api.ActGive:
		return gives(a.A)
	case api.ActAssert:
		if !chapterIs(a.A.Kind, a.N) {
			return panicked(api.PanAssert, int64(a.A.Kind))
		}
		return gives(a.A)
	case api.ActFace:
		return chapterFace(a.A, a.N)
	case api.ActIndex:
		return chapterIndex(a.A, a.N)
	case api.ActOpen:
		if r := chapterFace(a.A, api.FOpening); r.Err != api.OK {
			return r
		}
		if a.A.Kind == api.KNoPtr {
			return panicked(api.PanNil, 0)
		}
		return gives(a.A.List[0])
	case api.ActCompare:
		is, ok := chapterEqual(a.A, a.B)
		if !ok {
			return panicked(api.PanCompare, 0)
		}
		return gives(api.Datum{Kind: api.KBool, Int: bool01(is)})
	case api.ActDivide:
		return chapterDivide(a.A, a.B)
	case api.ActOwn:
		return panicked(api.PanOwn, a.N)
	case api.ActError:
		return panicked(api.PanError, a.N)
	case api.ActSize:
		return chapterSize(a.A)
	}
	return api.Result{Err: api.ErrMethod}
}

// chapterIs tells whether an assertion to a kind holds of a value of a kind.
func chapterIs(have int, to int64) bool {
	switch {
	case to <= api.KNil || to >= api.NumKinds:
		return false
	case to == api.KPtr:
		return have == api.KPtr || have == api.KNoPtr
	}
	return int64(have) == to
}

func chapterFace(d api.Datum, face int64) api.Result {
	if d.Kind == api.KNil || face < 0 || face >= int64(len(methodsOf)) {
		return panicked(api.PanAssert, -1)
	}
	for _, m := range methodsOf[face] {
		if !slices.Contains(kindsWith[m], d.Kind) {
			return panicked(api.PanAssert, int64(m))
		}
	}
	return gives(d)
}

func chapterIndex(d api.Datum, at int64) api.Result {
	if d.Kind != api.KList {
		return panicked(api.PanAssert, int64(d.Kind))
	}
	for i, part := range d.List {
		if int64(i) == at {
			return gives(part)
		}
	}
	return panicked(api.PanIndex, at)
}

// chapterEqual is chapter 1's ==; not ok: it panics.
func chapterEqual(a, b api.Datum) (is, ok bool) {
	if a.Kind != b.Kind {
		return false, true
	}
	switch a.Kind {
	case api.KBytes, api.KList:
		return false, false
	case api.KFloat:
		return floatsEqual(a.Bits, b.Bits), true
	case api.KPair:
		if is, ok := chapterEqual(a.List[0], b.List[0]); !is || !ok {
			return is, ok
		}
		return chapterEqual(a.List[1], b.List[1])
	}
	return a.Int == b.Int && a.Text == b.Text, true
}

// floatsEqual looks at the bits: a number that is none has all bits of the exponent, and some behind it.
func floatsEqual(a, b uint64) bool {
	const sign, infinite = 1 << 63, 0x7ff << 52
	if a&^sign > infinite || b&^sign > infinite {
		return false
	}
	return a == b || (a|b)&^sign == 0
}

func chapterDivide(a, b api.Datum) api.Result {
	for _, d := range []api.Datum{a, b} {
		if d.Kind != api.KInt {
			return panicked(api.PanAssert, int64(d.Kind))
		}
	}
	if b.Int == 0 {
		return panicked(api.PanDivide, 0)
	}
	return gives(number(cutQuotient(a.Int, b.Int)))
}

// cutQuotient divides the numbers without their signs, so that what is left is cut towards 0.
func cutQuotient(a, b int64) int64 {
	q := without(a) / without(b)
	if (a < 0) != (b < 0) {
		q = -q
	}
	return int64(q)
}

func without(n int64) uint64 {
	if n < 0 {
		return -uint64(n)
	}
	return uint64(n)
}

func chapterSize(d api.Datum) api.Result {
	switch d.Kind {
	case api.KText, api.KName, api.KBytes:
		return gives(number(int64(len(d.Text))))
	case api.KList, api.KPair, api.KPtr:
		// A pair has two, a box one.
		return gives(number(int64(len(d.List))))
	case api.KNoPtr:
		return gives(number(0))
	}
	return api.Result{Err: api.ErrMethod}
}

func bool01(is bool) int64 {
	if is {
		return 1
	}
	return 0
}

// chapterRun is P11.2.
func chapterRun(l []api.Act) (results []api.Result, places []int) {
	for i, a := range l {
		r := chapterTry(a)
		results = append(results, r)
		places = append(places, i)
		if r.Err == api.ErrPanic {
			break
		}
	}
	slices.Reverse(places)
	return results, places
}

// valueTexts are values of each kind, and of kinds within others.
var valueTexts = []string{
	"nil", "0", "1", "-1", "5", "9223372036854775807", "-9223372036854775808", "#0", "#1", "#5",
	"f0000000000000000", "f8000000000000000", "f3ff0000000000000", "f7ff8000000000001", "f7ff0000000000001", "f7ff0000000000000", "ffff0000000000000",
	`""`, `"a"`, `"ab"`, `@""`, `@"a"`, `@"ab"`, "true", "false", "%", "%00", "%00ff", `!0""`, `!3""`, `!3"a"`, `!5"a"`, "&nil", "{}",
	"[]", "[1]", "[1, 2]", "[nil]", "[[1], &nil]", "&1(5)", "&1([1])", "&2(5)", "&2(&nil)", "&9223372036854775807(nil)",
	"(1, 2)", "(1, [2])", "(2, [2])", "([2], 1)", "([2], 2)", `([2], "x")`, "([1], 2)", "(%00, 1)", "(1, (2, [3]))", "(1, (3, [3]))", "(1, (2, 3))", "(nil, nil)", "(&1(5), 1)", "(&1([]), 1)", "(f7ff8000000000001, [])", "(f8000000000000000, 1)", "(f0000000000000000, 1)",
}

var values = sync.OnceValue(func() []api.Datum {
	var l []api.Datum
	for _, s := range valueTexts {
		d, e := datum.Parse(s)
		if e != api.OK {
			panic(s)
		}
		l = append(l, d)
	}
	return l
})

func copied(d api.Datum) api.Datum {
	d.List = slices.Clone(d.List)
	for i := range d.List {
		d.List[i] = copied(d.List[i])
	}
	return d
}

func randomValue(r *rand.Rand, deep int) api.Datum {
	if deep > 1 {
		switch r.IntN(6) {
		case 0:
			d := api.Datum{Kind: api.KList}
			for range r.IntN(5) {
				d.List = append(d.List, randomValue(r, deep-1))
			}
			return d
		case 1:
			return api.Datum{Kind: api.KPair, List: []api.Datum{randomValue(r, deep-1), randomValue(r, deep-1)}}
		case 2:
			return api.Datum{Kind: api.KPtr, Int: pick[int64](r, 1, 2, 9), List: []api.Datum{randomValue(r, deep-1)}}
		}
	}
	return copied(pick(r, values()...))
}

// varied is a value like d: the same, or with a part that is another one.
func varied(r *rand.Rand, d api.Datum) api.Datum {
	d = copied(d)
	if r.IntN(3) == 0 {
		return d
	}
	if len(d.List) == 0 {
		return randomValue(r, 1)
	}
	i := r.IntN(len(d.List))
	d.List[i] = varied(r, d.List[i])
	return d
}

func randomAct(r *rand.Rand) api.Act {
	a := api.Act{Op: 1 + r.IntN(10), A: randomValue(r, 4), B: randomValue(r, 3), N: int64(r.IntN(16)) - 2}
	if r.IntN(20) == 0 {
		a.Op = pick(r, -1, 0, 11, 1<<40)
	}
	switch a.Op {
	case api.ActIndex:
		a.N = pick[int64](r, 0, 0, 1, 2, 3, 4, -1, 1<<32, 1<<63-1, -1<<63)
	case api.ActOpen:
		if r.IntN(3) > 0 {
			a.A = pick(r, api.Datum{Kind: api.KNoPtr}, api.Datum{Kind: api.KPtr, Int: 1, List: []api.Datum{a.A}})
		}
	case api.ActCompare:
		if r.IntN(3) > 0 {
			a.B = varied(r, a.A)
		}
	case api.ActDivide:
		a.A, a.B = randomWhole(r, a.A), randomWhole(r, a.B)
	case api.ActOwn, api.ActError:
		a.N = int64(r.Uint64())
	}
	return a
}

// randomWhole is most often an int, else d.
func randomWhole(r *rand.Rand, d api.Datum) api.Datum {
	if r.IntN(8) == 0 {
		return d
	}
	return number(pick(r, 0, 1, -1, 2, -2, 7, -7, 1<<63-1, -1<<63, -1<<63+1, int64(r.Uint64()), int64(r.IntN(2000))-1000))
}

func randomRow(r *rand.Rand) []api.Act {
	l := make([]api.Act, r.IntN(9))
	for i := range l {
		l[i] = randomAct(r)
		if r.IntN(2) == 0 {
			l[i].Op = pick(r, api.ActGive, api.ActSize, 0)
		}
	}
	return l
}
