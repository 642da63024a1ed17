package datum

import (
	"math"
	"slices"
	"strings"
	"testing"

	"conduit/api"
)

// whoHas is the chapter's table, by the method's number.
func whoHas() [][]int {
	return [][]int{
		api.MSize:  {api.KText, api.KName, api.KBytes, api.KList, api.KPair, api.KPtr, api.KNoPtr},
		api.MName:  {api.KName, api.KKey, api.KErr},
		api.MError: {api.KErr, api.KPtr, api.KNoPtr},
		api.MOpen:  {api.KPtr, api.KNoPtr},
		api.MLess:  {api.KInt, api.KKey, api.KFloat, api.KText, api.KName},
		api.MAdd:   {api.KInt, api.KFloat},
	}
}

// P1.6
func TestHas(t *testing.T) {
	for method, kinds := range whoHas() {
		for kind := range api.NumKinds {
			if Has(kind, method) != slices.Contains(kinds, kind) {
				t.Errorf("kind %d, method %d: %v", kind, method, Has(kind, method))
			}
		}
	}
	wrong := []int{-1, -11, 1 << 32, math.MaxInt, math.MinInt}
	for _, n := range append(wrong, api.NumKinds, 99) {
		for method := range api.NumMethods {
			if Has(n, method) {
				t.Errorf("the kind %d has the method %d", n, method)
			}
		}
	}
	for _, n := range append(wrong, api.NumMethods, 99) {
		for kind := range api.NumKinds {
			if Has(kind, n) {
				t.Errorf("the kind %d has the method %d", kind, n)
			}
		}
	}
}

// P1.7: ErrMethod just where the kind has no such method, whatever the other one is.
func TestMethodsAsHas(t *testing.T) {
	for kind, d := range oneOfEach() {
		_, size := Length(d)
		_, name := Label(d)
		_, words := Words(d)
		_, open := Open(d)
		for method, e := range []api.Errno{size, name, words, open} {
			if (e == api.ErrMethod) == Has(kind, method) {
				t.Errorf("kind %d, method %d: %v", kind, method, e)
			}
		}
		for other, b := range oneOfEach() {
			_, less := Less(d, b)
			_, add := Add(d, b)
			for method, e := range map[int]api.Errno{api.MLess: less, api.MAdd: add} {
				want := api.OK
				if !Has(kind, method) {
					want = api.ErrMethod
				} else if kind != other {
					want = api.ErrNumber
				}
				if e != want {
					t.Errorf("kinds %d, %d, method %d: %v", kind, other, method, e)
				}
			}
		}
	}
}

// The chapter's example 4; 1 and 2 stand in TestEqual, 3 in TestGroup, 5 in TestTexts and TestParseNone.
func TestExample4(t *testing.T) {
	if n, e := Length(read(t, "&nil")); n != 0 || e != api.OK {
		t.Error("Length", n, e)
	}
	if _, e := Open(read(t, "&nil")); e != api.ErrNilCall {
		t.Error("Open", e)
	}
	if _, e := Open(read(t, "5")); e != api.ErrMethod {
		t.Error("Open", e)
	}
	if s, e := Words(read(t, `!3""`)); s != "error 3" || e != api.OK {
		t.Error("Words", s, e)
	}
	if s, e := Label(read(t, "#7")); s != "key 7" || e != api.OK {
		t.Error("Label", s, e)
	}
	if is, e := Less(read(t, "1"), read(t, "#2")); is || e != api.ErrNumber {
		t.Error("Less", is, e)
	}
	if d, e := Add(dInt(greatest), dInt(1)); e != api.OK || !Same(d, dInt(least)) {
		t.Error("Add", d, e)
	}
}

func TestLength(t *testing.T) {
	for _, c := range []struct {
		d api.Datum
		n int
	}{
		{dText(""), 0}, {dText("é"), 2}, {dName("abc"), 3}, {dBytes(""), 0}, {dBytes("\x00\xff"), 2}, {dText(strings.Repeat("x", api.MaxBytes)), api.MaxBytes},
		{dList(), 0}, {dList(dList(dNil, dNil)), 1}, {dList(make([]api.Datum, 4095)...), 4095}, {dPair(dNil, dList()), 2}, {dPtr(9, dList()), 1}, {dNoPtr, 0},
	} {
		if n, e := Length(c.d); n != c.n || e != api.OK {
			t.Errorf("%s: %d, %v", short(Print(c.d)), n, e)
		}
	}
	if n, e := Length(dErr(3, "abc")); n != 0 || e != api.ErrMethod {
		t.Error(n, e)
	}
}

func TestLabel(t *testing.T) {
	for _, c := range []struct {
		d api.Datum
		s string
	}{
		{dKey(7), "key 7"}, {dKey(0), "key 0"}, {dKey(-7), "key -7"}, {dKey(least), "key -9223372036854775808"}, {dName("n\x00"), "n\x00"}, {dName(""), ""}, {dErr(3, "w"), "w"}, {dErr(3, ""), ""},
	} {
		if s, e := Label(c.d); s != c.s || e != api.OK {
			t.Errorf("%s: %q, %v", Print(c.d), s, e)
		}
	}
	if s, e := Label(dText("abc")); s != "" || e != api.ErrMethod {
		t.Error(s, e)
	}
}

func TestWords(t *testing.T) {
	for _, c := range []struct {
		d api.Datum
		s string
		e api.Errno
	}{
		{dErr(3, ""), "error 3", api.OK}, {dErr(-3, ""), "error -3", api.OK}, {dErr(0, ""), "error 0", api.OK}, {dErr(3, "w"), "w", api.OK},
		{dPtr(1, dNil), "box 1", api.OK}, {dPtr(greatest, dErr(1, "x")), "box 9223372036854775807", api.OK}, {dNoPtr, "", api.ErrNilCall}, {dName("abc"), "", api.ErrMethod}, {dNil, "", api.ErrMethod},
	} {
		if s, e := Words(c.d); s != c.s || e != c.e {
			t.Errorf("%s: %q, %v", Print(c.d), s, e)
		}
	}
}

func TestOpen(t *testing.T) {
	for _, d := range append(oneOfEach(), dFalse, dFloat(0x7ff0000000000001), dFloat(minus0), dList(), dPtr(2, dList(dPtr(3, dNil), dPtr(3, dUnit))), dPair(dPtr(1, dInt(5)), dInt(2))) {
		for _, n := range []int64{1, 2, greatest} {
			if got, e := Open(dPtr(n, d)); e != api.OK || !Same(got, d) || !Valid(got) {
				t.Errorf("what lies in the box: %s, %v, not %s", Print(got), e, Print(d))
			}
		}
	}
	for _, c := range []struct {
		d api.Datum
		e api.Errno
	}{{dNoPtr, api.ErrNilCall}, {dInt(5), api.ErrMethod}, {dNil, api.ErrMethod}, {dList(dInt(5)), api.ErrMethod}, {dPair(dInt(5), dNil), api.ErrMethod}} {
		if got, e := Open(c.d); e != c.e || !Same(got, dNil) {
			t.Errorf("%s: %v, %v", Print(c.d), got, e)
		}
	}
}

func TestLess(t *testing.T) {
	for _, c := range []struct {
		a, b string
		is   bool
		e    api.Errno
	}{
		{"1", "2", true, api.OK}, {"2", "1", false, api.OK}, {"1", "1", false, api.OK}, {"-9223372036854775808", "9223372036854775807", true, api.OK}, {"#-1", "#0", true, api.OK}, {"#0", "#-1", false, api.OK},
		{"f0000000000000000", "f3ff0000000000000", true, api.OK}, {"fbff0000000000000", "f0000000000000000", true, api.OK}, {"f8000000000000000", "f0000000000000000", false, api.OK}, {"f0000000000000000", "f8000000000000000", false, api.OK},
		{"ffff0000000000000", "f7ff0000000000000", true, api.OK}, {"f7ff8000000000001", "f3ff0000000000000", false, api.OK}, {"f3ff0000000000000", "f7ff8000000000001", false, api.OK}, {"f7ff8000000000001", "f7ff8000000000001", false, api.OK},
		{`"a"`, `"b"`, true, api.OK}, {`"b"`, `"a"`, false, api.OK}, {`"a"`, `"ab"`, true, api.OK}, {`""`, `"\x00"`, true, api.OK}, {`"z"`, `"\xff"`, true, api.OK}, {`"Z"`, `"a"`, true, api.OK}, {`@"a"`, `@"b"`, true, api.OK}, {`@"b"`, `@"a"`, false, api.OK},
		{"1", "#2", false, api.ErrNumber}, {"#1", "2", false, api.ErrNumber}, {"1", "f3ff0000000000000", false, api.ErrNumber}, {`"a"`, `@"b"`, false, api.ErrNumber}, {`@"a"`, `"b"`, false, api.ErrNumber}, {"1", "nil", false, api.ErrNumber}, {"1", "[]", false, api.ErrNumber}, {"f0000000000000000", "1", false, api.ErrNumber},
		{"true", "1", false, api.ErrMethod}, {"false", "true", false, api.ErrMethod}, {"nil", "1", false, api.ErrMethod}, {"nil", "nil", false, api.ErrMethod}, {"%00", "%01", false, api.ErrMethod}, {"&nil", "&nil", false, api.ErrMethod},
	} {
		if is, e := Less(read(t, c.a), read(t, c.b)); is != c.is || e != c.e {
			t.Errorf("%s < %s: %v, %v", c.a, c.b, is, e)
		}
	}
}

func TestAdd(t *testing.T) {
	for _, c := range []struct {
		a, b, sum string
		e         api.Errno
	}{
		{"1", "2", "3", api.OK}, {"9223372036854775807", "1", "-9223372036854775808", api.OK}, {"-9223372036854775808", "-1", "9223372036854775807", api.OK}, {"-9223372036854775808", "-9223372036854775808", "0", api.OK}, {"5", "-5", "0", api.OK},
		{"f3ff0000000000000", "f4000000000000000", "f4008000000000000", api.OK}, {"f8000000000000000", "f8000000000000000", "f8000000000000000", api.OK}, {"f8000000000000000", "f0000000000000000", "f0000000000000000", api.OK}, {"f3ff0000000000000", "fbff0000000000000", "f0000000000000000", api.OK},
		{"f7fefffffffffffff", "f7fefffffffffffff", "f7ff0000000000000", api.OK}, {"f3fb999999999999a", "f3fc999999999999a", "f3fd3333333333334", api.OK}, {"f0000000000000001", "f0000000000000001", "f0000000000000002", api.OK},
		{"f7ff0000000000000", "ffff0000000000000", "f7ff8000000000001", api.OK}, {"ffff0000000000000", "f7ff0000000000000", "f7ff8000000000001", api.OK}, {"f7ff8000000000002", "f3ff0000000000000", "f7ff8000000000001", api.OK}, {"f3ff0000000000000", "fffffffffffffffff", "f7ff8000000000001", api.OK}, {"f7ff0000000000001", "f0000000000000000", "f7ff8000000000001", api.OK},
		{"1", "#2", "nil", api.ErrNumber}, {"1", "f3ff0000000000000", "nil", api.ErrNumber}, {"f3ff0000000000000", "1", "nil", api.ErrNumber}, {"1", "nil", "nil", api.ErrNumber},
		{"#1", "#2", "nil", api.ErrMethod}, {`"a"`, `"b"`, "nil", api.ErrMethod}, {"#1", "1", "nil", api.ErrMethod}, {"nil", "1", "nil", api.ErrMethod}, {"[]", "[]", "nil", api.ErrMethod}, {"&1(1)", "1", "nil", api.ErrMethod},
	} {
		if sum, e := Add(read(t, c.a), read(t, c.b)); e != c.e || !Same(sum, read(t, c.sum)) {
			t.Errorf("%s + %s: %s, %v", c.a, c.b, Print(sum), e)
		}
	}
}

// P1.10
func TestLessIsAnOrder(t *testing.T) {
	r := newRandom(10)
	for range 30000 {
		draw := pick(r, func() api.Datum { return dInt(r.int()) }, func() api.Datum { return dKey(r.int()) }, func() api.Datum { return dFloat(r.bits()) },
			func() api.Datum { return dText(r.text()) }, func() api.Datum { return dName(r.text()) })
		a, b, c := draw(), draw(), draw()
		if saidNaN(a) || saidNaN(b) || saidNaN(c) {
			continue
		}
		ab, e1 := Less(a, b)
		ba, e2 := Less(b, a)
		is, e3 := Equal(a, b)
		if e1 != api.OK || e2 != api.OK || e3 != api.OK {
			t.Fatal(e1, e2, e3)
		}
		ways := 0
		for _, holds := range []bool{ab, ba, is} {
			if holds {
				ways++
			}
		}
		if ways != 1 {
			t.Fatalf("%s and %s: less %v, greater %v, equal %v", Print(a), Print(b), ab, ba, is)
		}
		bc, _ := Less(b, c)
		ac, _ := Less(a, c)
		if ab && bc && !ac {
			t.Fatalf("%s, %s, %s", Print(a), Print(b), Print(c))
		}
	}
}
