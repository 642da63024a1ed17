package datum

import (
	"math"
	"strings"
	"testing"

	"conduit/api"
)

// P1.1: each kind with its own fields, and nothing else.
func TestValidOrdinary(t *testing.T) {
	for kind, d := range oneOfEach() {
		if d.Kind != kind || !Valid(d) {
			t.Errorf("kind %d is not valid", kind)
		}
	}
	for _, d := range []api.Datum{
		dInt(greatest), dInt(least), dKey(least), dFloat(0), dFloat(math.MaxUint64), dText(""), dName(""), dBytes(""), dFalse,
		dList(), dErr(0, ""), dErr(least, "x"), dPtr(1, dNil), dPtr(greatest, dNoPtr), dPair(dList(), dBytes("a")),
		{Kind: api.KList, List: []api.Datum{}}, {Kind: api.KInt, List: []api.Datum{}}, {Kind: api.KNil, List: []api.Datum{dInt(1)}[:0]},
	} {
		if !Valid(d) {
			t.Errorf("%v is not valid", d)
		}
	}
}

func TestValidStrayFields(t *testing.T) {
	hasInt := []int{api.KInt, api.KKey, api.KBool, api.KErr, api.KPtr}
	hasText := []int{api.KText, api.KName, api.KBytes, api.KErr}
	hasList := []int{api.KList, api.KPair, api.KPtr}
	for kind, d := range oneOfEach() {
		for _, c := range []struct {
			field string
			has   []int
			put   func(*api.Datum)
		}{
			{"Int", hasInt, func(d *api.Datum) { d.Int = 1 }},
			{"Bits", []int{api.KFloat}, func(d *api.Datum) { d.Bits = 1 }},
			{"Text", hasText, func(d *api.Datum) { d.Text = "x" }},
			{"List", hasList, func(d *api.Datum) {
				if len(d.List) == 0 {
					d.List = []api.Datum{dNil}
				}
			}},
		} {
			may := false
			for _, k := range c.has {
				may = may || k == kind
			}
			e := copied(d)
			c.put(&e)
			if Valid(e) != may {
				t.Errorf("kind %d with a field %s: %v", kind, c.field, !may)
			}
		}
	}
}

func TestValidWrong(t *testing.T) {
	wrong := []api.Datum{
		{Kind: -1}, {Kind: api.NumKinds}, {Kind: math.MaxInt}, {Kind: math.MinInt},
		{Kind: api.KBool, Int: 2}, {Kind: api.KBool, Int: -1}, {Kind: api.KBool, Int: 1 << 32},
		{Kind: api.KPair}, {Kind: api.KPair, List: []api.Datum{dNil}}, {Kind: api.KPair, List: []api.Datum{dNil, dNil, dNil}},
		{Kind: api.KPtr, Int: 1}, {Kind: api.KPtr, Int: 1, List: []api.Datum{dNil, dNil}},
		dPtr(0, dNil), dPtr(-1, dNil), dPtr(least, dNil),
	}
	for _, d := range wrong {
		for _, e := range []api.Datum{d, dList(dNil, d), dPair(d, dNil), dPair(dNil, d), dPtr(1, d), dPtr(1, dPair(dNil, dList(d)))} {
			if Valid(e) {
				t.Errorf("%v is valid", e)
			}
		}
	}
}

func TestValidLimits(t *testing.T) {
	most, more := strings.Repeat("x", api.MaxBytes), strings.Repeat("x", api.MaxBytes+1)
	for _, make := range []func(string) api.Datum{dText, dName, dBytes, func(s string) api.Datum { return dErr(1, s) }} {
		if !Valid(make(most)) || !Valid(dList(make(most), make(most))) {
			t.Errorf("kind %d: MaxBytes bytes are too many", make("").Kind)
		}
		if Valid(make(more)) || Valid(dPair(dNil, make(more))) {
			t.Errorf("kind %d: MaxBytes + 1 bytes are not too many", make("").Kind)
		}
	}
	for _, d := range []api.Datum{dNil, dList(), dText("x")} {
		if !Valid(nested(api.MaxDeep, d)) || Valid(nested(api.MaxDeep+1, d)) {
			t.Errorf("MaxDeep with %v innermost", d)
		}
	}
	deepest := nested(api.MaxDeep-1, dNil)
	for _, d := range []api.Datum{dPair(dNil, deepest), dPair(deepest, dNil), dPtr(1, deepest)} {
		if !Valid(d) || Valid(dList(dNil, d)) {
			t.Errorf("MaxDeep in kind %d", d.Kind)
		}
	}
	full := dList(make([]api.Datum, api.MaxItems-1)...)
	if !Valid(full) || Valid(dList(make([]api.Datum, api.MaxItems)...)) || Valid(dPtr(1, full)) {
		t.Error("MaxItems in one list")
	}
	half := dList(make([]api.Datum, api.MaxItems/2-1)...)
	if !Valid(dPair(half, dList(make([]api.Datum, api.MaxItems/2-2)...))) || Valid(dPair(half, half)) {
		t.Error("MaxItems in two lists: parts count as often as they stand there")
	}
}

// Valid is of any Datum: it must end of one that stands in itself, and of one whose parts are very many.
func TestValidEnds(t *testing.T) {
	l := make([]api.Datum, 2)
	l[0] = dList(l...)
	l[1] = api.Datum{Kind: api.KList, List: l}
	l[0].List = l
	wide := dNil
	for range 12 {
		l := make([]api.Datum, 4096)
		for i := range l {
			l[i] = wide
		}
		wide = dList(l...)
	}
	if Valid(l[1]) || Valid(wide) || Valid(nested(1<<16, dNil)) {
		t.Error("valid")
	}
}

// P1.2
func TestParts(t *testing.T) {
	for _, c := range []struct {
		d           api.Datum
		parts, deep int
	}{
		{dNil, 1, 1}, {dText("abc"), 1, 1}, {dList(), 1, 1}, {dNoPtr, 1, 1}, {dUnit, 1, 1}, {dErr(1, "x"), 1, 1},
		{dList(dNil), 2, 2}, {dPair(dNil, dInt(1)), 3, 2}, {dPtr(1, dNil), 2, 2}, {dPtr(1, dPtr(1, dNil)), 3, 3},
		{dList(dPair(dNil, dNil), dList(), dInt(1)), 6, 3}, {dPair(dInt(1), dList(dList(dNil))), 5, 4}, {dPair(dList(dList(dNil)), dInt(1)), 5, 4},
		{nested(api.MaxDeep, dInt(1)), api.MaxDeep, api.MaxDeep}, {dList(make([]api.Datum, api.MaxItems-1)...), api.MaxItems, 2},
	} {
		if parts, deep := Parts(c.d); parts != c.parts || deep != c.deep {
			t.Errorf("%s: %d, %d", short(Print(c.d)), parts, deep)
		}
	}
}

// P1.3
func TestSame(t *testing.T) {
	all := oneOfEach()
	all = append(all, dInt(0), dKey(-5), dInt(7), dFloat(0), dFloat(minus0), dFloat(nan), dFloat(nan+1), dText("n"), dName("t"), dBytes("t"), dFalse,
		dList(), dList(dInt(1)), dList(dNil, dInt(1)), dPair(dInt(1), dText("y")), dPair(dInt(2), dText("x")), dPair(dInt(1), dName("x")),
		dErr(3, "f"), dErr(4, "e"), dPtr(3, dInt(1)), dPtr(2, dInt(2)), dPtr(2, dKey(1)), dList(dList(dFloat(0))), dList(dList(dFloat(minus0))))
	for i, a := range all {
		for j, b := range all {
			if Same(a, copied(b)) != (i == j) {
				t.Errorf("%s and %s: %v", Print(a), Print(b), i != j)
			}
		}
	}
	spare := make([]api.Datum, 0, 4)
	if !Same(dList(), api.Datum{Kind: api.KList, List: spare}) || !Same(dPtr(1, api.Datum{Kind: api.KList, List: spare}), dPtr(1, dList())) || !Same(api.Datum{List: spare}, dNil) {
		t.Error("an empty list may be nil")
	}
}
