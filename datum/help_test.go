package datum

import (
	"math"
	"math/rand/v2"
	"slices"
	"strings"
	"testing"

	"conduit/api"
)

const (
	greatest = math.MaxInt64
	least    = math.MinInt64
	nan      = 0x7ff8000000000001
	minus0   = 1 << 63
	one      = 0x3ff0000000000000
	infinite = 0x7ff0000000000000
)

func dInt(n int64) api.Datum    { return api.Datum{Kind: api.KInt, Int: n} }
func dKey(n int64) api.Datum    { return api.Datum{Kind: api.KKey, Int: n} }
func dFloat(b uint64) api.Datum { return api.Datum{Kind: api.KFloat, Bits: b} }
func dText(s string) api.Datum  { return api.Datum{Kind: api.KText, Text: s} }
func dName(s string) api.Datum  { return api.Datum{Kind: api.KName, Text: s} }
func dBytes(s string) api.Datum { return api.Datum{Kind: api.KBytes, Text: s} }
func dErr(n int64, s string) api.Datum {
	return api.Datum{Kind: api.KErr, Int: n, Text: s}
}
func dList(l ...api.Datum) api.Datum { return api.Datum{Kind: api.KList, List: l} }
func dPair(a, b api.Datum) api.Datum { return api.Datum{Kind: api.KPair, List: []api.Datum{a, b}} }
func dPtr(n int64, d api.Datum) api.Datum {
	return api.Datum{Kind: api.KPtr, Int: n, List: []api.Datum{d}}
}

var (
	dNil   = api.Datum{}
	dTrue  = api.Datum{Kind: api.KBool, Int: 1}
	dFalse = api.Datum{Kind: api.KBool}
	dNoPtr = api.Datum{Kind: api.KNoPtr}
	dUnit  = api.Datum{Kind: api.KUnit}
)

// oneOfEach is a valid value of each kind, by the kind's number.
func oneOfEach() []api.Datum {
	return []api.Datum{
		api.KNil: dNil, api.KInt: dInt(-5), api.KKey: dKey(7), api.KFloat: dFloat(one), api.KText: dText("t"),
		api.KName: dName("n"), api.KBool: dTrue, api.KBytes: dBytes("\x00\xff"), api.KList: dList(dInt(1), dNil),
		api.KPair: dPair(dInt(1), dText("x")), api.KErr: dErr(3, "e"), api.KPtr: dPtr(2, dInt(1)), api.KNoPtr: dNoPtr, api.KUnit: dUnit,
	}
}

func copied(d api.Datum) api.Datum {
	d.List = slices.Clone(d.List)
	for i := range d.List {
		d.List[i] = copied(d.List[i])
	}
	return d
}

// nested is a list in a list and so on, so many deep, with d innermost.
func nested(deep int, d api.Datum) api.Datum {
	for range deep - 1 {
		d = dList(d)
	}
	return d
}

// maker of random values: few of each sort, so that equal ones come up often.
type random struct{ *rand.Rand }

func newRandom(seed uint64) random { return random{rand.New(rand.NewPCG(seed, 1))} }

func pick[T any](r random, l ...T) T { return l[r.IntN(len(l))] }

func (r random) int() int64 { return pick[int64](r, 0, 1, -1, 2, 7, greatest, least) }

func (r random) bits() uint64 {
	return pick[uint64](r, 0, minus0, one, one|minus0, nan, nan+1, 0x7ff0000000000001, infinite, infinite|minus0, r.Uint64())
}

func (r random) text() string {
	return pick(r, "", "a", "b", "ab", "\"", "\\", "\x00", "\x1f", " ", "~", "\x7f", "\x80", "\xff", "\n", "\\x41", "é", string([]byte{byte(r.IntN(256)), byte(r.IntN(256))}))
}

func (r random) leaf() api.Datum {
	switch r.IntN(11) {
	case 0:
		return dInt(r.int())
	case 1:
		return dKey(r.int())
	case 2:
		return dFloat(r.bits())
	case 3:
		return dText(r.text())
	case 4:
		return dName(r.text())
	case 5:
		return pick(r, dTrue, dFalse)
	case 6:
		return dBytes(r.text())
	case 7:
		return dErr(r.int(), r.text())
	case 8:
		return dNoPtr
	case 9:
		return dUnit
	}
	return dNil
}

func (r random) value(deep int) api.Datum {
	if deep <= 1 {
		return r.leaf()
	}
	switch r.IntN(6) {
	case 0:
		l := make([]api.Datum, r.IntN(4))
		for i := range l {
			l[i] = r.value(deep - 1)
		}
		return dList(l...)
	case 1, 2:
		return dPair(r.value(deep-1), r.value(deep-1))
	case 3:
		return dPtr(pick[int64](r, 1, 2, greatest), r.value(deep-1))
	}
	return r.leaf()
}

// pairs is a value that is mostly made of pairs, where == goes on inwards.
func (r random) pairs(deep int) api.Datum {
	if deep <= 1 || r.IntN(4) == 0 {
		return pick(r, dInt(1), dInt(1), dInt(2), dNil, dFloat(nan), dFloat(0), dFloat(minus0), dList(dInt(1)), dBytes("x"), dPtr(1, dList()), dPtr(1, dInt(5)), dPtr(2, dNil), dErr(1, "x"))
	}
	return dPair(r.pairs(deep-1), r.pairs(deep-1))
}

func read(t *testing.T, s string) api.Datum {
	t.Helper()
	d, e := Parse(s)
	if e != api.OK {
		t.Fatalf("Parse(%s): %v", s, e)
	}
	return d
}

func readAll(t *testing.T, texts ...string) []api.Datum {
	t.Helper()
	var l []api.Datum
	for _, s := range texts {
		l = append(l, read(t, s))
	}
	return l
}

func short(s string) string {
	if len(s) > 60 {
		return s[:60] + ".."
	}
	return strings.ToValidUTF8(s, "?")
}
