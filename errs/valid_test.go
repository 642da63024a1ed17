package errs

import (
	"math"
	"slices"
	"strings"
	"testing"

	"conduit/api"
)

// P35.1: one of each kind, with the least and the most that it may have.
func TestValid(t *testing.T) {
	long := strings.Repeat("x", api.MaxBytes)
	l := append(kinds(t), plainly(least, long), plainly(0, ""), ptr(greatest, long), ptr(1, "\xff\x00"), wrap(1, "", null()), wrap(9, long, list()), many(1), many(greatest, none, none, p, p), hold(t, "nil"), hold(t, "&1((1, [2]))"), list(), list(least, 0, greatest), like(1, "", nil), like(1, "l", nil, p), like(2, long, []int64{0, 0, least}, m), pose(1, "", least), timely(1, ""), timely(2, "t"), timely(3, long))
	for _, e := range l {
		if !Valid(e) {
			t.Error(show(e)[:min(len(show(e)), 80)])
		}
	}
}

// P35.1: a field that a kind has not is zero.
func TestStrayFields(t *testing.T) {
	has := []string{api.EkNil: "", api.EkPlain: "code text", api.EkPtr: "id text", api.EkWrap: "id text list", api.EkMany: "id list", api.EkHold: "body", api.EkList: "codes", api.EkNoPtr: "", api.EkLike: "id text codes list", api.EkAs: "id text code", api.EkTime: "code text"}
	puts := map[string]func(e *api.Err){
		"id":    func(e *api.Err) { e.Id = 1 },
		"code":  func(e *api.Err) { e.Code = 1 },
		"text":  func(e *api.Err) { e.Text = "x" },
		"body":  func(e *api.Err) { e.Body = api.Datum{Kind: api.KUnit} },
		"codes": func(e *api.Err) { e.Codes = []int64{0} },
		"list":  func(e *api.Err) { e.List = []api.Err{p} },
	}
	for kind, e := range kinds(t) {
		if e.Kind != kind {
			t.Fatal(kind)
		}
		for field, put := range puts {
			more := e
			put(&more)
			if is := slices.Contains(strings.Fields(has[kind]), field); Valid(more) != is {
				t.Errorf("%s with %s: %v", show(e), field, !is)
			}
		}
		if kind != api.EkHold {
			for _, b := range []api.Datum{{Int: 1}, {Text: "x"}, {Bits: 1}, {List: make([]api.Datum, 1)}} {
				more := e
				more.Body = b
				if Valid(more) {
					t.Errorf("%s with a body %+v", show(e), b)
				}
			}
		}
	}
}

// P35.1: kinds that are none.
func TestKinds(t *testing.T) {
	for _, kind := range []int{math.MinInt, -1, api.NumEk, api.NumEk + 1, 256, 1 << 32, math.MaxInt} {
		if Valid(api.Err{Kind: kind}) || Valid(many(1, api.Err{Kind: kind})) || Valid(wrap(1, "", api.Err{Kind: kind})) {
			t.Error(kind)
		}
	}
}

// P35.1: numbers, texts, bodies, and what is wrapped.
func TestNotValid(t *testing.T) {
	long := strings.Repeat("x", api.MaxBytes+1)
	l := []api.Err{plainly(1, long), ptr(1, long), wrap(1, long, p), like(1, long, nil), pose(1, long, 1), timely(1, long)}
	for _, id := range []int64{least, -1, 0} {
		l = append(l, ptr(id, "a"), wrap(id, "a", p), many(id, p), like(id, "a", nil), pose(id, "a", 1))
	}
	for _, code := range []int64{least, -1, 0, 4, greatest} {
		l = append(l, timely(code, "t"))
	}
	for _, b := range []api.Datum{{Kind: -1}, {Kind: api.NumKinds}, {Kind: api.KBool, Int: 2}, {Kind: api.KPair}, {Kind: api.KText, Text: long}, {Kind: api.KList, List: []api.Datum{{Kind: 99}}}, {Int: 1}} {
		l = append(l, api.Err{Kind: api.EkHold, Body: b})
	}
	l = append(l, api.Err{Kind: api.EkWrap, Id: 1}, wrap(1, "w", none), api.Err{Kind: api.EkWrap, Id: 1, List: []api.Err{p, p}}, api.Err{Kind: api.EkWrap, Id: 1, List: []api.Err{p, none}}, like(1, "l", nil, none), like(1, "l", nil, p, p), like(1, "l", nil, none, none))
	for i, e := range l {
		if Valid(e) {
			t.Error(i, show(e)[:min(len(show(e)), 80)])
		}
		for _, around := range []api.Err{many(1, e), many(1, p, none, e), wrap(1, "w", e), like(1, "l", nil, e), many(2, p, many(3, wrap(4, "w", e)))} {
			if Valid(around) {
				t.Error(i, "within")
			}
		}
	}
}

// P35.1: how deep; an EkNil in a list is as deep as another one there.
func TestDeep(t *testing.T) {
	arounds := []func(e api.Err) api.Err{
		func(e api.Err) api.Err { return wrap(1, "w", e) },
		func(e api.Err) api.Err { return many(1, p, e, none) },
		func(e api.Err) api.Err { return like(1, "l", nil, e) },
	}
	for i, around := range arounds {
		for _, e := range []api.Err{p, many(1), like(1, "", nil), hold(t, "[[[[[[[[[[[[[[[[]]]]]]]]]]]]]]]]")} {
			if !Valid(chain(e, api.MaxDeep-1, around)) || Valid(chain(e, api.MaxDeep, around)) {
				t.Error(i, show(e))
			}
		}
	}
	if !Valid(chain(many(1, none), api.MaxDeep-2, arounds[0])) || Valid(chain(many(1, none), api.MaxDeep-1, arounds[0])) {
		t.Error("nil")
	}
}

// P35.1: how many errors, EkNil among them; how many parts of bodies and codes, together.
func TestMuch(t *testing.T) {
	row := func(n int, e api.Err) []api.Err { return slices.Repeat([]api.Err{e}, n) }
	body := func(parts int) api.Err {
		return api.Err{Kind: api.EkHold, Body: api.Datum{Kind: api.KList, List: make([]api.Datum, parts-1)}}
	}
	for _, c := range []struct {
		e  api.Err
		is bool
	}{
		{many(1, row(api.MaxItems-1, p)...), true},
		{many(1, row(api.MaxItems, p)...), false},
		{many(1, row(api.MaxItems-1, none)...), true},
		{many(1, row(api.MaxItems, none)...), false},
		{many(1, many(2, row(api.MaxItems-3, none)...), p), true},
		{many(1, many(2, row(api.MaxItems-3, none)...), w), false},
		{wrap(1, "", many(2, row(api.MaxItems-2, p)...)), true},
		{wrap(1, "", many(2, row(api.MaxItems-1, p)...)), false},
		{body(api.MaxItems), true},
		{body(api.MaxItems + 1), false},
		{list(make([]int64, api.MaxItems)...), true},
		{list(make([]int64, api.MaxItems+1)...), false},
		{like(1, "", make([]int64, api.MaxItems)), true},
		{like(1, "", make([]int64, api.MaxItems+1)), false},
		{many(1, body(4000), list(make([]int64, 96)...)), true},
		{many(1, body(4000), list(make([]int64, 97)...)), false},
		{many(1, list(make([]int64, 96)...), body(4001)), false},
		{like(1, "", make([]int64, 2000), wrap(1, "", many(1, body(1000), body(1000), list(make([]int64, 96)...)))), true},
		{like(1, "", make([]int64, 2000), wrap(1, "", many(1, body(1000), body(1001), list(make([]int64, 96)...)))), false},
		{many(1, row(api.MaxItems-1, hold(t, "nil"))...), true},
		{many(1, append(row(api.MaxItems-3, hold(t, "nil")), hold(t, "(nil, nil)"))...), true},
		{many(1, append(row(api.MaxItems-3, hold(t, "nil")), hold(t, "[1, 2, 3]"))...), false},
	} {
		if Valid(c.e) != c.is {
			t.Error(c.is, c.e.Kind, len(c.e.List), len(c.e.Codes))
		}
	}
}

// P35.1, 0.1: an error that stands in itself, or in so many places that nobody could go through them, is none.
func TestEndless(t *testing.T) {
	self := many(1, none)
	self.List[0] = self
	wide := many(1, p)
	for range 60 {
		wide = many(1, wide, wide, wide)
	}
	long := many(1, make([]api.Err, 1<<20)...)
	body := api.Datum{Kind: api.KList, List: make([]api.Datum, 1)}
	body.List[0] = body
	for i, e := range []api.Err{self, wide, long, many(1, slices.Repeat([]api.Err{long}, 1<<10)...), {Kind: api.EkHold, Body: body}, list(make([]int64, 1<<20)...)} {
		if Valid(e) {
			t.Error(i)
		}
	}
}
