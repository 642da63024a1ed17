package lint

import (
	"math"
	"reflect"
	"slices"
	"strings"
	"sync"
	"testing"

	"conduit/api"
	"conduit/check"
	"conduit/shown"
)

// Every call ends and none panics, at patterns and plans of which nothing else is promised too.
func TestAnything(t *testing.T) {
	numbers := []int{math.MinInt, -1, 0, 1, 7, api.WrFilter, 99, math.MaxInt}
	for _, n := range numbers {
		for _, w := range []api.Want{{Op: n, Num: n}, {Op: n, List: make([]api.Want, 2)}, {Op: api.WNot, Num: n}, {Op: api.WFace, Num: n}, {Op: api.WKind, Num: n}, {Num: n}, {List: make([]api.Want, 1)}} {
			Empty(w)
			Full(w)
			for _, op := range numbers {
				h := api.Named{Chain: api.Chain{Core: api.Core{Op: n, Caps: api.Caps(n)}, Wraps: []api.Wrap{{Op: op, Caps: api.Caps(n), Want: w}, {Op: api.WrFilter, Want: w}}}, Inbox: n, After: []int{n, 0, n, -1, 2, 1}}
				p := api.Plan{Handlers: []api.Named{h, h}, Routes: []api.Route{{Filter: "a+", Want: w, Handler: n}, {Filter: "\xff", Else: true}, {Filter: "#", Want: w, Handler: 1, Else: true}, {Handler: op}}}
				Look(p)
				Look(api.Plan{Routes: p.Routes})
			}
		}
	}
}

// P31.2: a pattern of a route that is Else, which no fit plan has, counts as any other one's.
func TestElseWithPattern(t *testing.T) {
	p := plan(t, one+`route "x" else -> a; route "y" -> a;`)
	p.Routes[0].Want = pattern(t, "int & text")
	if l := lookAsSaid(t, p); show(l) != "dead 0" {
		t.Error(show(l))
	}
}

// P31.2: "names aside": of handlers whose names are exchanged, the same, or none at all, the same is told.
func TestNamesAside(t *testing.T) {
	r := newRandom(7)
	for range 500 {
		p := randomPlan(t, r)
		l := Look(p)
		for _, name := range []func(i int) string{func(int) string { return "" }, func(int) string { return "a" }, func(i int) string { return "h" + number(len(p.Handlers)-i) }, func(int) string { return strings.Repeat("\xff;", 99) }} {
			for i := range p.Handlers {
				p.Handlers[i].Name = name(i)
			}
			if again := Look(p); !slices.Equal(l, again) {
				t.Fatalf("%s, then %s", show(l), show(again))
			}
		}
	}
}

// P31.2: inboxes, and what is done where they are full, play no part; nor does a core's number.
func TestOtherFields(t *testing.T) {
	r := newRandom(8)
	for range 500 {
		p := randomPlan(t, r)
		l := Look(p)
		for i := range p.Handlers {
			h := &p.Handlers[i]
			h.Inbox, h.Drop, h.Chain.Core.Num = 1+r.IntN(api.MaxInbox), r.IntN(3), r.Int64N(100)
		}
		if again := Look(p); !slices.Equal(l, again) {
			t.Fatalf("%s: %s, then %s", check.Write(p), show(l), show(again))
		}
	}
}

// filled is a value of a type with something in each field, as it stands in spare room.
func filled(typ reflect.Type) reflect.Value {
	v := reflect.New(typ).Elem()
	switch typ.Kind() {
	case reflect.Struct:
		for i := range typ.NumField() {
			v.Field(i).Set(filled(typ.Field(i).Type))
		}
	case reflect.Int, reflect.Int64:
		v.SetInt(1)
	case reflect.Uint32:
		v.SetUint(1)
	case reflect.String:
		v.SetString("#")
	case reflect.Bool:
		v.SetBool(true)
	}
	return v
}

// roomy is a value whose lists, all of them, lie in memory with spare room on both sides, where something else stands.
func roomy(v reflect.Value) reflect.Value {
	out := reflect.New(v.Type()).Elem()
	switch v.Kind() {
	case reflect.Struct:
		for i := range v.NumField() {
			out.Field(i).Set(roomy(v.Field(i)))
		}
	case reflect.Slice:
		all := reflect.MakeSlice(v.Type(), v.Len()+3, v.Len()+3)
		for i := range all.Len() {
			all.Index(i).Set(filled(v.Type().Elem()))
		}
		for i := range v.Len() {
			all.Index(i + 1).Set(roomy(v.Index(i)))
		}
		out.Set(all.Slice(1, v.Len()+1))
	default:
		out.Set(v)
	}
	return out
}

func roomyOf[T any](x T) T { return roomy(reflect.ValueOf(x)).Interface().(T) }

// eachList calls f with all that a list has room for, of each list in a value, from the innermost ones on, and with how much of it is used.
func eachList(v reflect.Value, f func(all reflect.Value, used int)) {
	switch v.Kind() {
	case reflect.Struct:
		for i := range v.NumField() {
			eachList(v.Field(i), f)
		}
	case reflect.Slice:
		for i := range v.Len() {
			eachList(v.Index(i), f)
		}
		f(v.Slice(0, v.Cap()), v.Len())
	}
}

// spared tells whether spare room is as roomy made it.
func spared(x any) bool {
	is := true
	eachList(reflect.ValueOf(x), func(all reflect.Value, used int) {
		for i := used; i < all.Len(); i++ {
			is = is && reflect.DeepEqual(all.Index(i).Interface(), filled(all.Type().Elem()).Interface())
		}
	})
	return is
}

// spoil writes over lists, spare room too.
func spoil(x any) {
	eachList(reflect.ValueOf(x), func(all reflect.Value, _ int) {
		for i := range all.Len() {
			all.Index(i).SetZero()
		}
	})
}

// 0.3, 0.4, 0.8: what is handed in stays as it is, spare room too, which plays no part, and is not kept; what is told is new memory, and does not hang on what becomes of either.
func TestMemory(t *testing.T) {
	r := newRandom(9)
	for range 1500 {
		made := randomPlan(t, r)
		in := roomyOf(made)
		out := lookAsSaid(t, in)
		was := slices.Clone(out)
		if !spared(in) || !reflect.DeepEqual(roomyOf(made), in) {
			t.Fatalf("%s: changed", check.Write(made))
		}
		spoil(in)
		if !slices.Equal(out, was) {
			t.Fatalf("%s: what was told changed with what was handed in", check.Write(made))
		}
		spoil(out)
		if again := Look(made); !slices.Equal(again, was) {
			t.Fatalf("%s: %s, then %s", check.Write(made), show(was), show(again))
		}
	}
}

// 0.4, 0.8: likewise of patterns.
func TestPatternsMemory(t *testing.T) {
	for _, s := range somePatterns {
		made := pattern(t, s)
		in := roomyOf(made)
		if Empty(in) != chapterEmpty(made) || Full(in) != chapterFull(made) || !spared(in) || !reflect.DeepEqual(roomyOf(made), in) {
			t.Error(s)
		}
	}
}

// 0.8: what is nil and what is empty are the same: a route's pattern with an empty list is the zero Want.
func TestNilAndEmpty(t *testing.T) {
	empty := []api.Want{}
	for _, p := range []api.Plan{{}, {Handlers: []api.Named{}, Routes: []api.Route{}}} {
		if l := Look(p); len(l) != 0 {
			t.Error(show(l))
		}
	}
	p := plan(t, one+`route "x" -> a; route "x" else -> a;`)
	p.Routes[0].Want.List = empty
	p.Handlers[0].After, p.Handlers[0].Chain.Wraps = []int{}, []api.Wrap{}
	if l := lookAsSaid(t, p); show(l) != "dead 1" {
		t.Error(show(l))
	}
	if w := (api.Want{Op: api.WAny, List: empty}); Empty(w) || Full(w) {
		t.Error("any")
	}
}

// Looks end where they are left, and begin anew.
func TestLooksLeft(t *testing.T) {
	p := plan(t, `handler a = echo caps close, flush with filter when int with filter when key with mask caps close after c, b, d;
		handler b = echo caps ping, name with hide after a; handler c = echo; handler d = echo;
		route "x" when text -> a; route "x" when text & int -> a; route "x" when text & int -> b;`)
	p.Handlers[0].Chain.Wraps[2].Caps = 1 << api.CapPing
	s := sightOf(p)
	for _, k := range looks() {
		var all []api.Finding
		for f := range k.finds(s) {
			all = append(all, f)
		}
		if len(all) < 2 {
			t.Fatalf("sort %d: %v", k.what, all)
		}
		for n := range len(all) {
			var l []api.Finding
			for f := range k.finds(s) {
				l = append(l, f)
				if len(l) > n {
					break
				}
			}
			if !slices.Equal(l, all[:n+1]) {
				t.Errorf("sort %d: %v of %v", k.what, l, all)
			}
		}
	}
}

// What the looks are told ahead of is as many as there are routes and handlers.
func TestSight(t *testing.T) {
	r := newRandom(10)
	for range 300 {
		p := randomPlan(t, r)
		s := sightOf(p)
		if len(s.lets) != len(p.Routes) || len(s.dead) != len(p.Routes) || len(s.gets) != len(p.Handlers) || len(s.shows) != len(p.Handlers) {
			t.Fatal(check.Write(p))
		}
		for i, h := range p.Handlers {
			if s.shows[i] != shown.Shown(h.Chain) {
				t.Fatal(check.Write(p))
			}
		}
	}
}

// 0.3: many at a time look at one plan.
func TestManyAtATime(t *testing.T) {
	p := randomPlan(t, newRandom(11))
	said := Look(p)
	var all sync.WaitGroup
	for range 8 {
		all.Go(func() {
			for range 50 {
				if l := Look(p); !slices.Equal(l, said) {
					t.Errorf("%s, not %s", show(l), show(said))
				}
			}
		})
	}
	all.Wait()
}

// FuzzLook looks for configurations of which something else is told than the chapter says.
func FuzzLook(f *testing.F) {
	r := newRandom(12)
	for range 60 {
		f.Add(check.Write(randomPlan(f, r)))
	}
	f.Fuzz(func(t *testing.T, config string) {
		p, fault := check.Load([]byte(config))
		if fault.Err != api.OK {
			t.Skip()
		}
		lookAsSaid(t, p)
	})
}
