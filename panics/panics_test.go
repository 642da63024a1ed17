package panics

import (
	"errors"
	"runtime"
	"testing"

	"conduit/api"
	"conduit/datum"
	"conduit/value"
)

func read(t *testing.T, s string) api.Datum {
	t.Helper()
	d, e := datum.Parse(s)
	if e != api.OK {
		t.Fatalf("%s is no value", s)
	}
	return d
}

func caught(do func()) api.Result {
	return Caught(func() api.Result {
		do()
		return api.Result{}
	})
}

func same(a, b api.Result) bool {
	return a.Err == b.Err && a.Code == b.Code && a.Panic == b.Panic && a.Has == b.Has && datum.Same(a.Body, b.Body)
}

// Each kind of panic is told by its type.
func TestCaught(t *testing.T) {
	for _, c := range []struct {
		do   func()
		want api.Panic
	}{
		{func() { panic(Assertion(-1)) }, api.Panic{Kind: api.PanAssert, Num: -1}},
		{func() { panic(NilPointer{}) }, api.Panic{Kind: api.PanNil}},
		{func() { panic(Index(1 << 40)) }, api.Panic{Kind: api.PanIndex, Num: 1 << 40}},
		{func() { panic(Own(7)) }, api.Panic{Kind: api.PanOwn, Num: 7}},
		{func() { panic(value.Failure{Code: -3}) }, api.Panic{Kind: api.PanError, Num: -3}},
		{func() { panic(Comparison{}) }, api.Panic{Kind: api.PanCompare}},
		{func() { panic(Division{}) }, api.Panic{Kind: api.PanDivide}},
	} {
		if got := caught(c.do); !same(got, api.Result{Err: api.ErrPanic, Panic: c.want}) {
			t.Errorf("%+v, not %+v", got, c.want)
		}
	}
}

// Where nothing panics, what comes is what is answered.
func TestNotCaught(t *testing.T) {
	for _, want := range []api.Result{{}, {Err: api.ErrHandler, Code: 3}, {Has: true, Body: read(t, "[1]")}} {
		if got := Caught(func() api.Result { return want }); !same(got, want) {
			t.Errorf("%+v, not %+v", got, want)
		}
	}
}

// A panic within what is done is caught where it comes first.
func TestCaughtWithin(t *testing.T) {
	got := Caught(func() api.Result {
		inner := caught(func() { panic(Own(1)) })
		panic(Own(inner.Panic.Num + 1))
	})
	if got.Panic != (api.Panic{Kind: api.PanOwn, Num: 2}) {
		t.Errorf("%+v", got)
	}
}

// What the language panics of is told as what it is said to be; where it does not panic, what comes is answered.
func TestAs(t *testing.T) {
	var (
		row  any = value.Row{}
		none []int
		box  *value.Box
		zero int
	)
	for _, do := range []func() int{
		func() int { return map[any]int{}[row] },
		func() int { return map[bool]int{}[row == row] },
		func() int { return none[zero] },
		func() int { return box.Open().(int) },
		func() int { return row.(int) },
		func() int { return 1 / zero },
	} {
		got := caught(func() { As(Own(5), do) })
		if !same(got, api.Result{Err: api.ErrPanic, Panic: api.Panic{Kind: api.PanOwn, Num: 5}}) {
			t.Errorf("%+v", got)
		}
	}
	if got := caught(func() { zero = As(Own(5), func() int { return 3 }) }); got.Err != api.OK || zero != 3 {
		t.Errorf("%+v, %d", got, zero)
	}
}

// A panic that is no handler's goes on.
func TestOtherPanicsGoOn(t *testing.T) {
	for _, p := range []any{"other", 7, api.ErrRange, errors.New("other")} {
		func() {
			defer func() {
				if got := recover(); got != p {
					t.Errorf("%v, not %v", got, p)
				}
			}()
			t.Errorf("%v: %+v", p, caught(func() { panic(p) }))
		}()
	}
}

// What the language panics of goes on, unless somebody said what it is.
func TestOwnFaultsGoOn(t *testing.T) {
	defer func() {
		if err, ok := recover().(runtime.Error); !ok {
			t.Error(err)
		}
	}()
	var row any = value.Row{}
	t.Errorf("%+v", caught(func() { _ = row == row }))
}

// The steps answer, or panic as the chapters say.
func TestSteps(t *testing.T) {
	must := func(kind int) func(api.Datum) api.Datum {
		return func(d api.Datum) api.Datum { return Must(d, kind) }
	}
	face := func(face int) func(api.Datum) api.Datum {
		return func(d api.Datum) api.Datum {
			Face(d, face)
			return d
		}
	}
	place := func(at int64) func(api.Datum) api.Datum {
		return func(d api.Datum) api.Datum { return Place(d, at) }
	}
	for _, c := range []struct {
		step func(api.Datum) api.Datum
		d    string
		want string
		api.Panic
	}{
		{must(api.KInt), "5", "5", api.Panic{}},
		{must(api.KInt), `"x"`, "", api.Panic{Kind: api.PanAssert, Num: api.KText}},
		{must(api.KInt), "nil", "", api.Panic{Kind: api.PanAssert, Num: api.KNil}},
		{must(api.KList), "[[1]]", "[[1]]", api.Panic{}},
		{face(api.FSized), "&nil", "&nil", api.Panic{}},
		{face(api.FSized), "5", "", api.Panic{Kind: api.PanAssert, Num: api.MSize}},
		{face(api.FWhole), `"x"`, "", api.Panic{Kind: api.PanAssert, Num: api.MName}},
		{face(api.FSized), "nil", "", api.Panic{Kind: api.PanAssert, Num: -1}},
		{face(api.NumFaces), `"x"`, "", api.Panic{Kind: api.PanAssert, Num: -1}},
		{Open, "&2([1])", "[1]", api.Panic{}},
		{Open, "&nil", "", api.Panic{Kind: api.PanNil}},
		{Open, "5", "", api.Panic{Kind: api.PanAssert, Num: api.MOpen}},
		{Open, "nil", "", api.Panic{Kind: api.PanAssert, Num: -1}},
		{place(0), "[1, 2]", "1", api.Panic{}},
		{place(1), "[1, 2]", "2", api.Panic{}},
		{place(2), "[1, 2]", "", api.Panic{Kind: api.PanIndex, Num: 2}},
		{place(-1), "[1, 2]", "", api.Panic{Kind: api.PanIndex, Num: -1}},
		{place(1 << 32), "[1, 2]", "", api.Panic{Kind: api.PanIndex, Num: 1 << 32}},
		{place(0), "(1, 2)", "", api.Panic{Kind: api.PanAssert, Num: api.KPair}},
	} {
		want := api.Result{Err: api.ErrPanic, Panic: c.Panic}
		if c.want != "" {
			want = api.Result{Has: true, Body: read(t, c.want)}
		}
		d := read(t, c.d)
		got := Caught(func() api.Result { return api.Result{Has: true, Body: c.step(d)} })
		if !same(got, want) {
			t.Errorf("%s: %+v, not %+v", c.d, got, want)
		}
	}
}
