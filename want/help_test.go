package want

import (
	"math/rand/v2"
	"slices"
	"strconv"
	"strings"
	"testing"

	"conduit/api"
	"conduit/datum"
)

func kind(k int) api.Want { return api.Want{Op: api.WKind, Num: k} }

func face(f int) api.Want { return api.Want{Op: api.WFace, Num: f} }

func op(o int, l ...api.Want) api.Want { return api.Want{Op: o, List: l} }

func anything() api.Want { return api.Want{Op: api.WAny} }

func read(t testing.TB, s string) api.Datum {
	t.Helper()
	d, e := datum.Parse(s)
	if e != api.OK {
		t.Fatalf("datum.Parse(%s): %v", s, e)
	}
	return d
}

// samples is some values of each kind, by the kind's number.
func samples(t testing.TB) [api.NumKinds][]api.Datum {
	var out [api.NumKinds][]api.Datum
	for k, texts := range [api.NumKinds][]string{
		api.KNil:   {"nil"},
		api.KInt:   {"0", "5", "-9223372036854775808"},
		api.KKey:   {"#0", "#7"},
		api.KFloat: {"f0000000000000000", "f7ff8000000000001", "f7ff0000000000001"},
		api.KText:  {`""`, `"x"`},
		api.KName:  {`@""`, `@"x"`},
		api.KBool:  {"false", "true"},
		api.KBytes: {"%", "%00ff"},
		api.KList:  {"[]", "[nil]", "[1, [&nil, %00]]"},
		api.KPair:  {"(nil, nil)", `(1, ("x", [2]))`},
		api.KErr:   {`!0""`, `!3"e"`},
		api.KPtr:   {"&1(nil)", "&7(&nil)", "&9223372036854775807([1, (2, &1(3))])"},
		api.KNoPtr: {"&nil"},
		api.KUnit:  {"{}"},
	} {
		for _, s := range texts {
			out[k] = append(out[k], read(t, s))
		}
	}
	return out
}

// everyValue is all of samples in one row.
func everyValue(t testing.TB) []api.Datum {
	var l []api.Datum
	for _, s := range samples(t) {
		l = append(l, s...)
	}
	return l
}

// The tables of the two chapters, written out once more: who has which method, which interface asks for which.
var methodKinds = [api.NumMethods][]int{
	api.MSize:  {api.KText, api.KName, api.KBytes, api.KList, api.KPair, api.KPtr, api.KNoPtr},
	api.MName:  {api.KName, api.KKey, api.KErr},
	api.MError: {api.KErr, api.KPtr, api.KNoPtr},
	api.MOpen:  {api.KPtr, api.KNoPtr},
	api.MLess:  {api.KInt, api.KKey, api.KFloat, api.KText, api.KName},
	api.MAdd:   {api.KInt, api.KFloat},
}

var faceMethods = [api.NumFaces][]int{
	api.FSized:    {api.MSize},
	api.FNamed:    {api.MName},
	api.FFailing:  {api.MError},
	api.FOpening:  {api.MOpen},
	api.FOrdered:  {api.MLess},
	api.FAdding:   {api.MAdd},
	api.FLabelled: {api.MSize, api.MName},
	api.FMeasured: {api.MSize, api.MLess},
	api.FNumber:   {api.MLess, api.MAdd},
	api.FWhole:    {api.MSize, api.MName, api.MLess},
}

func known(n, many int) bool { return 0 <= n && n < many }

// lacking is what Missing is to answer.
func lacking(k, f int) int {
	if known(k, api.NumKinds) && known(f, api.NumFaces) {
		for _, m := range faceMethods[f] {
			if !slices.Contains(methodKinds[m], k) {
				return m
			}
		}
	}
	return -1
}

func implements(k, f int) bool {
	return known(k, api.NumKinds) && known(f, api.NumFaces) && lacking(k, f) == -1
}

// agrees is what Holds is to answer of a value of a kind.
func agrees(w api.Want, k int) bool {
	switch w.Op {
	case api.WAny:
		return k != api.KNil
	case api.WKind:
		return k == w.Num || w.Num == api.KPtr && k == api.KNoPtr
	case api.WFace:
		return implements(k, w.Num)
	case api.WNot:
		return !agrees(w.List[0], k)
	}
	all, some := true, false
	for _, p := range w.List {
		is := agrees(p, k)
		all, some = all && is, some || is
	}
	return w.Op == api.WAnd && all || w.Op == api.WOr && some
}

func kindsOf(w api.Want) uint32 {
	var set uint32
	for k := range api.NumKinds {
		if agrees(w, k) {
			set |= 1 << k
		}
	}
	return set
}

// ofSet is a pattern of just these kinds, made in a round-about way.
func ofSet(set uint32) api.Want {
	none := op(api.WAnd, kind(api.KNil), anything())
	l := []api.Want{none, none}
	for k := range api.NumKinds {
		if set>>k&1 == 0 {
			continue
		}
		w := kind(k)
		if k == api.KPtr {
			w = op(api.WAnd, op(api.WNot, kind(api.KNoPtr)), w)
		}
		l = append(l, w)
	}
	return op(api.WOr, l...)
}

func newRandom(seed uint64) *rand.Rand { return rand.New(rand.NewPCG(seed, 2)) }

func randomWant(r *rand.Rand, deep int) api.Want {
	n := r.IntN(7)
	if deep <= 1 {
		n %= 4
	}
	switch n {
	case 0:
		return anything()
	case 1, 2:
		return kind(r.IntN(api.NumKinds))
	case 3:
		return face(r.IntN(api.NumFaces))
	case 4:
		return op(api.WNot, randomWant(r, deep-1))
	}
	l := make([]api.Want, 2+r.IntN(3))
	for i := range l {
		l[i] = randomWant(r, deep-1)
	}
	return op(n-1, l...)
}

func same(a, b api.Want) bool {
	return a.Op == b.Op && a.Num == b.Num && slices.EqualFunc(a.List, b.List, same)
}

// written is a pattern for a test's words.
func written(w api.Want) string {
	if w.Op == api.WAny {
		return "any"
	}
	if w.Op == api.WKind || w.Op == api.WFace {
		return strings.Repeat("f", w.Op-api.WKind) + strconv.Itoa(w.Num)
	}
	var l []string
	for _, p := range w.List {
		l = append(l, written(p))
	}
	return strconv.Itoa(w.Op) + "(" + strings.Join(l, " ") + ")"
}
