package bus

import (
	"math"
	"reflect"
	"slices"
	"testing"

	"conduit/api"
	"conduit/check"
)

// odd are numbers that are none of anything.
var odd = []int64{math.MinInt64, -1, 0, 1, 5, lastTick + 1, math.MaxInt64}

// unfitPlan has handlers and routes of which nothing is promised.
func unfitPlan(n int64) api.Plan {
	h := api.Named{Chain: api.Chain{Core: api.Core{Op: int(n), Num: n, Caps: 1<<11 - 1}}, Inbox: int(n), Drop: int(n), After: []int{int(n), 0, 1}}
	wraps := api.Named{Chain: api.Chain{Core: api.Core{Op: api.CoEcho, Caps: 1<<11 - 1}, Wraps: []api.Wrap{{Op: api.WrBuffer, A: n, B: n}, {Op: int(n), A: n, B: n, Open: true}}}}
	routes := []api.Route{{Filter: "#", Handler: int(n)}, {Filter: "x", Handler: 1}, {Filter: "x", Want: api.Want{Op: int(n)}}, {Filter: "+", Else: true, Handler: 7}}
	return api.Plan{Handlers: []api.Named{h, wraps}, Routes: routes}
}

// unfitState is one of which nothing is promised.
func unfitState(n int64, posts int) api.Bus {
	m := api.Msg{Id: n, Topic: "#", Body: api.Datum{Kind: -5, List: make([]api.Datum, 3)}, At: n, Until: n, Reply: "x", Corr: n, Prio: int(n), Hops: int(n)}
	st := api.Bus{Now: n, Next: n, Turn: int(n), Asks: api.Asks{Next: n, Wait: []api.Ask{{Corr: n, Until: n, Topic: "x"}, {Corr: n}}}}
	for range posts {
		st.Posts = append(st.Posts, api.Post{
			Built: api.Built{Wraps: []api.WrapState{{Buffer: api.Buffer{Msgs: []api.Msg{m, m}, Since: n}}}},
			Inbox: api.Inbox{Msgs: []api.Msg{m, m, {}}, Refused: n, Dropped: n}, Held: []api.Msg{m},
		})
	}
	return st
}

// Every call ends and none panics, at plans, states and steps of which nothing else is promised too.
func TestAnything(t *testing.T) {
	for _, n := range odd {
		for _, p := range []api.Plan{{}, unfitPlan(n), plan(t, `handler a = echo with buffer 2 3; route "#" -> a;`)} {
			New(p)
			for posts := range 4 {
				st := unfitState(n, posts)
				Fit(p, st)
				for kind := -1; kind <= api.NumSteps; kind++ {
					m := api.Msg{Id: n, Topic: "x", Until: n, Reply: "x", Corr: n, Hops: int(n), Body: api.Datum{Kind: int(n)}}
					s := api.Step{Kind: kind, Msg: m, N: n, Handler: int(n), Cap: int(n), Deep: true}
					Step(s)
					Do(p, st, s)
					Run(p, []api.Step{s, s, {Kind: api.StWork, N: 9}, {Kind: api.StTick, N: n}, {Kind: api.StClose}, s})
				}
			}
		}
	}
}

// A step of no kind does nothing.
func TestNoStep(t *testing.T) {
	p := plan(t, `handler a = echo; route "x" -> a;`)
	st := must(t, p, New(p), publishing("x", 1))
	for _, kind := range []int{-1, 0, api.NumSteps, math.MaxInt} {
		if next, l := Do(p, st, api.Step{Kind: kind, Msg: api.Msg{Topic: "x"}, N: 3}); !same(next, st) || len(l) != 0 {
			t.Error(kind, next, l)
		}
	}
}

// filled is a value of a type with something in each field, as it stands in spare room.
func filled(typ reflect.Type) reflect.Value {
	v := reflect.New(typ).Elem()
	switch typ.Kind() {
	case reflect.Struct:
		for i := range typ.NumField() {
			v.Field(i).Set(filled(typ.Field(i).Type))
		}
	case reflect.Int, reflect.Int64:
		v.SetInt(77)
	case reflect.Uint32, reflect.Uint64:
		v.SetUint(77)
	case reflect.String:
		v.SetString("spare")
	case reflect.Bool:
		v.SetBool(true)
	}
	return v
}

// roomy is a value whose lists, all of them, lie in memory with spare room on both sides, where something else stands.
func roomy(v reflect.Value) reflect.Value {
	out := reflect.New(v.Type()).Elem()
	switch v.Kind() {
	case reflect.Struct:
		for i := range v.NumField() {
			out.Field(i).Set(roomy(v.Field(i)))
		}
	case reflect.Slice:
		all := reflect.MakeSlice(v.Type(), v.Len()+3, v.Len()+3)
		for i := range all.Len() {
			all.Index(i).Set(filled(v.Type().Elem()))
		}
		for i := range v.Len() {
			all.Index(i + 1).Set(roomy(v.Index(i)))
		}
		out.Set(all.Slice(1, v.Len()+1))
	default:
		out.Set(v)
	}
	return out
}

func roomyOf[T any](x T) T { return roomy(reflect.ValueOf(x)).Interface().(T) }

// span is where a list lies, spare room too.
type span struct {
	begin, end uintptr
	all        reflect.Value
	used       int
}

// spans is all lists in values.
func spans(values ...any) (l []span) {
	for _, x := range values {
		l = append(l, spansIn(reflect.ValueOf(x))...)
	}
	return l
}

func spansIn(v reflect.Value) (l []span) {
	switch v.Kind() {
	case reflect.Struct:
		for i := range v.NumField() {
			l = append(l, spansIn(v.Field(i))...)
		}
	case reflect.Slice:
		if v.Cap() > 0 {
			begin := v.Pointer()
			l = append(l, span{begin, begin + uintptr(v.Cap())*v.Type().Elem().Size(), v.Slice(0, v.Cap()), v.Len()})
		}
		for i := range v.Len() {
			l = append(l, spansIn(v.Index(i))...)
		}
	}
	return l
}

// spared tells whether spare room is as roomy made it.
func spared(l []span) bool {
	for _, s := range l {
		for i := s.used; i < s.all.Len(); i++ {
			if !reflect.DeepEqual(s.all.Index(i).Interface(), filled(s.all.Type().Elem()).Interface()) {
				return false
			}
		}
	}
	return true
}

// spoil writes over lists, spare room too.
func spoil(l []span) {
	for _, s := range l {
		for i := range s.all.Len() {
			s.all.Index(i).SetZero()
		}
	}
}

// apart tells whether no two lists share memory.
func apart(l []span) bool {
	slices.SortFunc(l, func(a, b span) int { return int(a.begin) - int(b.begin) })
	for i := range len(l) - 1 {
		if l[i].end > l[i+1].begin {
			return false
		}
	}
	return true
}

// given is what is handed in.
type given struct {
	Plan  api.Plan
	State api.Bus
	Steps []api.Step
}

// told is what is handed out.
type told struct {
	State  api.Bus
	Events [][]api.Event
}

func sameTold(a, b told) bool {
	return same(a.State, b.State) && slices.EqualFunc(a.Events, b.Events, sameEvents)
}

func (x told) copied() told {
	x.State, x.Events = copied(x.State), slices.Clone(x.Events)
	for i := range x.Events {
		x.Events[i] = copiedEvents(x.Events[i])
	}
	return x
}

// checkMemory holds a call against rules 0.3 and 0.4: what is handed in stays as it is, spare room too, which plays no part, and is not kept; what is handed out is new memory, of which no two lists share any; what was answered does not hang on what becomes of either.
func checkMemory(t *testing.T, made given, call func(x given) told) {
	t.Helper()
	in := roomyOf(made)
	out := call(in)
	was := out.copied()
	if !spared(spans(in)) || !reflect.DeepEqual(roomyOf(made), in) {
		t.Fatalf("%s%v became %v", check.Write(made.Plan), made, in)
	}
	if !apart(slices.Concat(spans(in), spans(out))) {
		t.Fatalf("%s%v: two lists share memory", check.Write(made.Plan), made)
	}
	spoil(spans(in))
	if !sameTold(out, was) {
		t.Fatalf("%s%v: what was answered changed with what was handed in", check.Write(made.Plan), made)
	}
	spoil(spans(out))
	if again := call(made); !sameTold(again, was) {
		t.Fatalf("%s%v: %v, then %v", check.Write(made.Plan), made, was, again)
	}
}

// 0.3, 0.4 of all calls.
func TestMemory(t *testing.T) {
	r := newRandom(8)
	for range 1200 {
		p := randomPlan(t, r)
		made := given{p, randomState(t, r, p), []api.Step{randomStep(t, r, p)}}
		checkMemory(t, made, func(x given) told {
			st, l := Do(x.Plan, x.State, x.Steps[0])
			return told{st, [][]api.Event{l}}
		})
		checkMemory(t, made, func(x given) told { return told{State: New(x.Plan)} })
		checkMemory(t, made, func(x given) told {
			if !Fit(x.Plan, x.State) || !Step(x.Steps[0]) {
				t.Fatalf("%v is not fit", made)
			}
			return told{}
		})
		if r.IntN(4) == 0 {
			made.Steps = randomSteps(t, r, p, r.IntN(40))
			checkMemory(t, made, func(x given) told {
				st, l := Run(x.Plan, x.Steps)
				return told{st, l}
			})
		}
	}
}

// 0.4: one body that is told as a result, is an answer's, and waits at many handlers lies somewhere else each time.
func TestOneBody(t *testing.T) {
	p := plan(t, `handler a = echo; handler b = echo with buffer 9 0; handler c = echo; route "x" -> a; route "x" -> b; route "r" -> b; route "r" -> c;`)
	s := publishing("x", 1)
	s.Msg.Body, s.Msg.Reply = list(list(number(1)), number(2)), "r"
	ask := s
	ask.Kind = api.StAsk
	made := given{p, New(p), []api.Step{s, ask, working(9), ticking(2)}}
	checkMemory(t, made, func(x given) told {
		st, l := Run(x.Plan, x.Steps)
		return told{st, l}
	})
}

// 0.8: lists that are empty are the same as nil ones.
func TestNilAndEmpty(t *testing.T) {
	p := plan(t, `handler a = echo with dedup 2 with buffer 2 0; route "x" -> a;`)
	st := New(p)
	empty := copied(st)
	empty.Asks.Wait = []api.Ask{}
	post := &empty.Posts[0]
	post.Inbox.Msgs, post.Held, post.Built.Core.List = []api.Msg{}, []api.Msg{}, []api.Datum{}
	for i := range post.Built.Wraps {
		post.Built.Wraps[i].Dedup.Ids, post.Built.Wraps[i].Buffer.Msgs = []int64{}, []api.Msg{}
	}
	if !Fit(p, st) || !Fit(p, empty) {
		t.Fatal(st, empty)
	}
	r := newRandom(9)
	for range 500 {
		s := randomStep(t, r, p)
		x, l := asSaid(t, p, st, s)
		y, k := asSaid(t, p, empty, s)
		if !same(x, y) || !sameEvents(l, k) {
			t.Fatalf("%v: %v, %v, and %v, %v", s, x, l, y, k)
		}
	}
	none := plan(t, "")
	if !Fit(none, api.Bus{}) || !Fit(none, api.Bus{Posts: []api.Post{}}) {
		t.Error("no posts")
	}
}

// FuzzRuns looks for plans and rows of steps of which something else comes than the chapter says.
func FuzzRuns(f *testing.F) {
	for seed := range uint64(20) {
		f.Add(seed, seed*7, uint8(seed*13))
	}
	f.Fuzz(func(t *testing.T, planSeed, stepSeed uint64, n uint8) {
		p := randomPlan(t, newRandom(planSeed))
		r := newRandom(stepSeed)
		st := randomState(t, r, p)
		for range n {
			st, _ = asSaid(t, p, st, randomStep(t, r, p))
		}
	})
}
