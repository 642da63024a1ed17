package check

import (
	"fmt"
	"math"
	"reflect"
	"slices"
	"strings"
	"testing"

	"conduit/api"
	"conduit/parse"
)

// fitAsSaid holds Fit, Chain and Write of a plan against the chapter.
func fitAsSaid(t testing.TB, p api.Plan) bool {
	t.Helper()
	is, text := chapterFit(p), ""
	if is {
		text = chapterWrite(p)
	}
	if Fit(p) != is {
		t.Fatalf("%+v: fit is %v", p, !is)
	}
	if got := Write(p); got != text {
		t.Fatalf("%+v: %q, not %q", p, got, text)
	}
	for _, h := range p.Handlers {
		if Chain(h.Chain) != chapterChain(h.Chain) {
			t.Fatalf("%+v: fit is %v", h.Chain, !chapterChain(h.Chain))
		}
	}
	return is
}

// numbersToTry are those at and beside each end of a range.
func numbersToTry() []int64 {
	return []int64{0, 1, 2, 3, 7, 8, 9, 10, 11, 12, 13, 16, 17, 63, 64, 128, 999, 1000, 1001, 1024, 1025, 4096, 4097, 999999, 1000000, 1000001, 1 << 31, 1 << 32, 1 << 40, math.MaxInt64, -1, -2, -1000000, math.MinInt64, math.MinInt64 + 1}
}

// P8.3: each core with each number.
func TestChainCores(t *testing.T) {
	fit := 0
	for _, o := range numbersToTry() {
		for _, n := range numbersToTry() {
			for _, set := range []api.Caps{0, 1, 4, 5, 64, 128, 192, 1 << 10, 1<<10 | 1, 1 << 11, 1 << 31, math.MaxUint32} {
				ch := api.Chain{Core: api.Core{Op: int(o), Num: n, Caps: set}}
				if Chain(ch) != chapterChain(ch) {
					t.Fatal(ch)
				}
				if Chain(ch) {
					fit++
				}
			}
		}
	}
	if fit < 100 {
		t.Error(fit)
	}
	for core, want := range map[api.Core]bool{
		{}:                                          false,
		{Op: api.CoEcho}:                            true,
		{Op: api.CoLess}:                            true,
		{Op: api.NumCores}:                          false,
		{Op: -1}:                                    false,
		{Op: api.CoEcho, Num: 1}:                    false,
		{Op: api.CoStore, Num: -1}:                  false,
		{Op: api.CoStore, Num: 1e6}:                 true,
		{Op: api.CoStore, Num: 1e6 + 1}:             false,
		{Op: api.CoFail}:                            true,
		{Op: api.CoFail, Num: math.MinInt64}:        true,
		{Op: api.CoNth, Num: math.MaxInt64}:         true,
		{Op: api.CoEcho, Caps: 1 << api.CapBatch}:   false,
		{Op: api.CoEcho, Caps: 1 << api.CapSave}:    false,
		{Op: api.CoCount, Caps: 1 << api.CapSave}:   true,
		{Op: api.CoCount, Caps: 1 << api.CapLoad}:   false,
		{Op: api.CoCount, Caps: 1 << api.CapOpen}:   false,
		{Op: api.CoCount, Caps: 1 << api.NumCaps}:   false,
		{Op: api.CoCount, Caps: 1<<api.CapOpen - 1}: true,
		{Op: api.CoEcho, Caps: (1<<api.CapOpen - 1) &^ (1<<api.CapSave | 1<<api.CapLoad)}: true,
	} {
		if Chain(api.Chain{Core: core}) != want {
			t.Error(core, !want)
		}
	}
}

// P8.3: each wrapper, and in its fields what its row has or has not.
func TestChainWraps(t *testing.T) {
	fit := map[int]int{}
	for o := -1; o <= api.NumWraps; o++ {
		for _, a := range []int64{0, 1, 8, 9, -1} {
			for _, b := range []int64{0, 1, -1} {
				for _, set := range []api.Caps{0, 4, 1<<10 - 1, 1 << 10, 1 << 11, 1 << 31} {
					for _, want := range []api.Want{{}, {List: []api.Want{}}, kind(api.KInt), {Num: 1}, {List: []api.Want{{}}}, kind(14)} {
						w := api.Wrap{Op: o, A: a, B: b, Caps: set, Want: want, Open: a%2 == 0}
						ch := api.Chain{Core: api.Core{Op: api.CoEcho}, Wraps: []api.Wrap{{Op: api.WrHide}, w}}
						if Chain(ch) != chapterChain(ch) {
							t.Fatal(ch)
						}
						if Chain(ch) {
							fit[o]++
						}
					}
				}
			}
		}
	}
	if len(fit) != api.NumWraps-1 {
		t.Error(fit)
	}
	for line := range strings.Lines(chapterWraps) {
		o := int(number(strings.Fields(line)[1]).Int64())
		for _, a := range numbersToTry() {
			for _, b := range numbersToTry() {
				for _, open := range []bool{false, true} {
					ch := api.Chain{Core: api.Core{Op: api.CoEcho}, Wraps: []api.Wrap{{Op: o, A: a, B: b, Open: open}}}
					if Chain(ch) != chapterChain(ch) {
						t.Fatal(ch)
					}
				}
			}
		}
	}
}

// P8.3: how many wrappers there may be.
func TestChainLength(t *testing.T) {
	for n, want := range map[int]bool{0: true, 1: true, 7: true, 8: true, 9: false, 100: false, 100000: false} {
		ch := api.Chain{Core: api.Core{Op: api.CoEcho}, Wraps: slices.Repeat([]api.Wrap{{Op: api.WrHide}}, n)}
		if Chain(ch) != want {
			t.Errorf("%d wrappers: %v", n, !want)
		}
	}
}

// P8.3, P8.4: patterns are such that parse.Text writes them.
func TestPatterns(t *testing.T) {
	row := func(n int) api.Want { return op(api.WOr, slices.Repeat([]api.Want{kind(api.KInt)}, n)...) }
	nots := func(n int) api.Want {
		w := kind(api.KInt)
		for range n {
			w = op(api.WNot, w)
		}
		return w
	}
	self := op(api.WAnd, kind(api.KInt), kind(api.KInt))
	self.List[1] = self
	twice := kind(api.KInt)
	for range 60 {
		twice = op(api.WAnd, twice, twice)
	}
	for i, x := range []struct {
		want api.Want
		fit  bool
	}{
		{kind(api.KUnit), true},
		{kind(api.KUnit + 1), false},
		{kind(-1), false},
		{api.Want{Op: api.WAny, Num: 1}, false},
		{api.Want{Op: api.WAny}, true},
		{api.Want{Op: api.WFace, Num: api.FWhole}, true},
		{api.Want{Op: api.WFace, Num: api.NumFaces}, false},
		{api.Want{Op: api.NumWants}, false},
		{op(api.WOr, kind(1)), false},
		{op(api.WNot, kind(1), kind(2)), false},
		{nots(32), true},
		{nots(33), false},
		{nots(60000), false},
		{row(16383), true},
		{row(16384), false},
		{self, false},
		{twice, false},
	} {
		ch := api.Chain{Core: api.Core{Op: api.CoEcho}, Wraps: []api.Wrap{{Op: api.WrFilter, Want: x.want}}}
		p := api.Plan{Handlers: []api.Named{{Name: "a", Chain: ch, Inbox: 1}}}
		q := api.Plan{Handlers: []api.Named{{Name: "a", Chain: api.Chain{Core: ch.Core}, Inbox: 1}}, Routes: []api.Route{{Filter: "a", Want: x.want}}}
		if (parse.Text(x.want) != "") != x.fit || Chain(ch) != x.fit || Fit(p) != x.fit || Fit(q) != x.fit || (Write(p) != "") != x.fit {
			t.Errorf("%d: %v %v %v", i, Chain(ch), Fit(p), Fit(q))
		}
		hide := ch
		hide.Wraps = []api.Wrap{{Op: api.WrHide, Want: x.want}}
		q.Routes[0].Else = true
		if Chain(hide) || Fit(q) {
			t.Errorf("%d: a pattern where there is none", i)
		}
	}
}

// wholePlan has something in each field.
func wholePlan(t testing.TB) api.Plan {
	return loaded(t, `handler a = store 5 caps flush, save with retry 3 with open buffer 10 7 with filter when int | !text with mask caps ping inbox 9 drop old after b, a;
		handler b = fail -3 with map:pair; handler c = echo;
		route "x/#" when int & text -> b; route "y" else -> a; route "z" -> c;`)
}

// P8.4: in each place each number and each text.
func TestFitEachPlace(t *testing.T) {
	p := wholePlan(t)
	if !fitAsSaid(t, p) {
		t.Error("the plan is not fit")
	}
	texts := []string{"", "q", "a", "b", "_", "of", "open", "with", "route", "a b", " a", "9", "é", "#", "+", "a+", "x/#/y", "\x00", strings.Repeat("n", 32), strings.Repeat("n", 33), strings.Repeat("n", 65535), strings.Repeat("n", 65536), "echo", "int", "a;", `"a"`, "-"}
	fit := 0
	for _, path := range paths(p) {
		check := func(f func(reflect.Value)) {
			if fitAsSaid(t, with(p, path, f)) {
				fit++
			}
		}
		for _, n := range numbersToTry() {
			check(func(v reflect.Value) {
				if v.CanInt() {
					v.SetInt(n)
				}
				if v.CanUint() {
					v.SetUint(uint64(n) & math.MaxUint32)
				}
			})
		}
		for _, s := range texts {
			check(func(v reflect.Value) {
				if v.Kind() == reflect.String {
					v.SetString(s)
				}
			})
		}
		check(func(v reflect.Value) {
			switch v.Kind() {
			case reflect.Bool:
				v.SetBool(!v.Bool())
			case reflect.Slice:
				v.Set(reflect.MakeSlice(v.Type(), 0, 3))
			}
		})
		check(func(v reflect.Value) {
			if v.Kind() == reflect.Slice && v.Len() > 0 {
				v.Set(reflect.Append(v, v.Index(0)))
			}
		})
		check(func(v reflect.Value) {
			if v.Kind() == reflect.Slice {
				v.Set(reflect.Append(v, reflect.Zero(v.Type().Elem())))
			}
		})
	}
	if fit < 500 {
		t.Error(fit)
	}
}

// P8.4: whatever becomes of one or two fields of a plan.
func TestFitRandomPlans(t *testing.T) {
	r := newRandom(3)
	is, not := 0, 0
	for range 3000 {
		p := randomPlan(r, 4)
		if !fitAsSaid(t, p) {
			t.Fatalf("%+v is not fit", p)
		}
		for range 1 + r.IntN(2) {
			l := paths(p)
			p = with(p, l[r.IntN(len(l))], func(v reflect.Value) {
				switch {
				case v.CanInt():
					v.SetInt(pick(r, numbersToTry()...))
				case v.CanUint():
					v.SetUint(v.Uint() ^ 1<<r.IntN(32))
				case v.Kind() == reflect.String:
					v.SetString(pick(r, names()...))
				case v.Kind() == reflect.Bool:
					v.SetBool(!v.Bool())
				case v.Len() > 0:
					v.Set(v.Slice(r.IntN(v.Len()), v.Len()))
				}
			})
		}
		if fitAsSaid(t, p) {
			is++
		} else {
			not++
		}
	}
	if is < 500 || not < 500 {
		t.Error(is, not)
	}
}

// P8.4: how many handlers and routes there may be, and that names are names of one each.
func TestFitCounts(t *testing.T) {
	plan := func(handlers, routes int) api.Plan {
		var p api.Plan
		for i := range handlers {
			p.Handlers = append(p.Handlers, api.Named{Name: fmt.Sprintf("h%d", i), Chain: api.Chain{Core: api.Core{Op: api.CoEcho}}, Inbox: 1})
		}
		for range routes {
			p.Routes = append(p.Routes, api.Route{Filter: "a"})
		}
		return p
	}
	for _, x := range []struct {
		handlers, routes int
		want             bool
	}{{0, 0, true}, {0, 1, false}, {64, 128, true}, {65, 0, false}, {1, 129, false}, {1, 128, true}, {5000, 5000, false}} {
		if p := plan(x.handlers, x.routes); Fit(p) != x.want || (Write(p) != "") != (x.want && x.handlers > 0) {
			t.Error(x)
		}
	}
	p := plan(64, 128)
	p.Handlers[63].After = make([]int, 64)
	for i := range p.Handlers[63].After {
		p.Handlers[63].After[i] = 63 - i
	}
	if !fitAsSaid(t, p) {
		t.Error("a handler may come after all")
	}
	p.Handlers[63].Name = "h0"
	if fitAsSaid(t, p) {
		t.Error("two handlers have one name")
	}
	p = plan(1, 0)
	p.Handlers[0].After = make([]int, 1<<20)
	if Fit(p) {
		t.Error("a handler comes after one many times")
	}
}

// P8.5: the form, with what is unsaid in a text said.
func TestWriteForms(t *testing.T) {
	for s, want := range map[string]string{
		"":                                     "",
		"handler a=echo;":                      "handler a = echo inbox 64 drop new;\n",
		"handler a=store;handler b=fail;":      "handler a = store 0 inbox 64 drop new;\nhandler b = fail 1 inbox 64 drop new;\n",
		"handler a=panic;handler b=nth;":       "handler a = panic 1 inbox 64 drop new;\nhandler b = nth 0 inbox 64 drop new;\n",
		"handler a=fail-0;":                    "handler a = fail 0 inbox 64 drop new;\n",
		"handler a=nth-9223372036854775808;":   "handler a = nth -9223372036854775808 inbox 64 drop new;\n",
		"handler a=panic 9223372036854775807;": "handler a = panic 9223372036854775807 inbox 64 drop new;\n",
		"handler a=less caps load,flush,save;": "handler a = less caps flush, save, load inbox 64 drop new;\n",
		"handler a=echo inbox 1 after b,a;handler b=of a with hide;":                  "handler a = echo inbox 1 drop new after b, a;\nhandler b = echo with hide inbox 64 drop new;\n",
		"handler a=echo inbox 2 drop none with":                                       "",
		"handler a=echo with open through with mask caps until,ack with limit 1 2;":   "handler a = echo with open through with mask caps ack, until with limit 1 2 inbox 64 drop new;\n",
		"handler a=echo with filter when((int))with open map:unbox inbox 7 drop old;": "handler a = echo with filter when int with open map:unbox inbox 7 drop old;\n",
		`route"x\x41"when int|text->a;handler a=echo;route"#"else->a;`:                "handler a = echo inbox 64 drop new;\nroute \"xA\" when int | text -> a;\nroute \"#\" else -> a;\n",
	} {
		p, _ := Load([]byte(s))
		if got := Write(p); got != want {
			t.Errorf("%s: %q, not %q", s, got, want)
		}
	}
}

// P8.5: what is written is as long as it must be, though no text may be so long.
func TestWriteLong(t *testing.T) {
	p := api.Plan{
		Handlers: []api.Named{{Name: "a", Chain: api.Chain{Core: api.Core{Op: api.CoEcho}}, Inbox: 1}},
		Routes:   []api.Route{{Filter: strings.Repeat("\u0080", 32767)}, {Filter: "a", Want: op(api.WOr, slices.Repeat([]api.Want{kind(api.KNoPtr)}, 16383)...)}},
	}
	if !fitAsSaid(t, p) || len(Write(p)) < 400000 {
		t.Error(len(Write(p)))
	}
}

// P8.6: whatever is another, the plans are not the same.
func TestSameEachField(t *testing.T) {
	p := wholePlan(t)
	if !Same(p, p) || !Same(p, copied(p)) || !Same(api.Plan{}, api.Plan{}) || Same(p, api.Plan{}) || Same(api.Plan{}, p) {
		t.Error("a plan is not the same as itself")
	}
	for _, path := range paths(p) {
		changes := []func(reflect.Value){func(v reflect.Value) {
			switch v.Kind() {
			case reflect.Bool:
				v.SetBool(!v.Bool())
			case reflect.String:
				v.SetString(v.String() + "z")
			case reflect.Slice:
				v.Set(reflect.Append(v, reflect.Zero(v.Type().Elem())))
			case reflect.Uint32:
				v.SetUint(v.Uint() ^ 1<<31)
			default:
				v.SetInt(v.Int() + 1<<40)
			}
		}, func(v reflect.Value) {
			switch v.Kind() {
			case reflect.Bool:
				v.SetBool(!v.Bool())
			case reflect.String:
				v.SetString("")
			case reflect.Slice:
				if v.Len() == 0 {
					v.Set(reflect.MakeSlice(v.Type(), 1, 1))
				} else {
					v.Set(v.Slice(1, v.Len()))
				}
			case reflect.Uint32:
				v.SetUint(v.Uint() ^ 1)
			default:
				v.SetInt(-1 - v.Int())
			}
		}}
		for _, f := range changes {
			if q := with(p, path, f); Same(p, q) || Same(q, p) || !Same(q, q) {
				t.Errorf("%s is another: still the same", path)
			}
		}
	}
}

// P8.6, 0.8: a list that is empty may be nil, and what lies in its spare room plays no part.
func TestSameEmptyLists(t *testing.T) {
	p := loaded(t, `handler a = echo with filter when int; route "a" -> a;`)
	empty := changed(p, func(_ string, v reflect.Value) {
		if v.Kind() == reflect.Slice && v.Len() == 0 {
			v.Set(reflect.MakeSlice(v.Type(), 1, 3).Slice(0, 0))
		}
	})
	if reflect.DeepEqual(p, empty) || !Same(p, empty) || !Same(empty, p) || !Fit(empty) || Write(empty) != Write(p) || !Chain(empty.Handlers[0].Chain) {
		t.Error(empty)
	}
	if !Same(api.Plan{}, api.Plan{Handlers: []api.Named{}, Routes: make([]api.Route, 0, 3)}) {
		t.Error("plans without anything")
	}
}

// P8.6: orders of lists count, and plans that are not fit are held against each other, too.
func TestSameOrder(t *testing.T) {
	p := wholePlan(t)
	for _, path := range paths(p) {
		q := with(p, path, func(v reflect.Value) {
			if v.Kind() == reflect.Slice && v.Len() > 1 {
				reflect.Swapper(v.Interface())(0, v.Len()-1)
			}
		})
		if exactly(p, q) != Same(p, q) || exactly(p, q) != Same(q, p) {
			t.Errorf("%s turned round: %v", path, Same(p, q))
		}
	}
	odd := api.Plan{Handlers: []api.Named{{Name: "\x00", Drop: -9, After: []int{-1, -1}}}, Routes: []api.Route{{Handler: 99, Want: api.Want{Op: 77}}}}
	if Fit(odd) || !Same(odd, copied(odd)) {
		t.Error(odd)
	}
	deep := func(n int) api.Plan {
		w := kind(api.KInt)
		for range n {
			w = op(api.WNot, w)
		}
		return api.Plan{Routes: []api.Route{{Want: w}}}
	}
	if !Same(deep(65000), deep(65000)) || Same(deep(65000), deep(64999)) || Fit(deep(65000)) {
		t.Error("deep patterns are held against each other otherwise")
	}
}
