package snap

import (
	"bytes"
	"math"
	"math/rand/v2"
	"reflect"
	"slices"
	"sync"
	"testing"

	"conduit/api"
	"conduit/bus"
)

// Every call ends and none panics, at plans, states and lists of which nothing else is promised too.
func TestAnything(t *testing.T) {
	for _, n := range []int64{math.MinInt64, -1, 0, 1, api.MaxTick + 1, math.MaxInt64} {
		odd := api.Datum{Kind: int(n), Int: n, List: make([]api.Datum, 3)}
		m := api.Msg{Id: n, Topic: "#", Body: odd, At: n, Until: n, Reply: "\xff", Corr: n, Prio: int(n), Hops: int(n)}
		wraps := []api.Wrap{{Op: int(n), A: n, B: n, Open: true}, {Op: api.WrBuffer, A: n, B: n}, {Op: api.WrGive, Caps: api.Caps(n)}}
		caps := api.Caps(1<<api.CapSave | 1<<api.CapLoad)
		unfit := api.Plan{
			Handlers: []api.Named{{Chain: api.Chain{Core: api.Core{Op: int(n), Num: n, Caps: caps}, Wraps: wraps}}, {Chain: api.Chain{Core: api.Core{Op: api.CoCount, Num: n, Caps: caps}}}, {Chain: api.Chain{Core: api.Core{Op: api.CoStore, Caps: caps}, Wraps: wraps}}},
			Routes:   []api.Route{{Filter: "#", Handler: int(n)}},
		}
		core := api.CoreState{Count: n, Acked: n, Last: odd, List: []api.Datum{odd, odd}, Until: n}
		state := api.WrapState{Limit: api.Limit{Level: n, Last: n}, Breaker: api.Breaker{Fails: n, Until: n}, Dedup: api.Dedup{Ids: []int64{n, n}}, Buffer: api.Buffer{Msgs: []api.Msg{m}, Since: n}, Until: n}
		post := api.Post{Built: api.Built{Core: core, Wraps: []api.WrapState{state}}, Inbox: api.Inbox{Msgs: []api.Msg{m}, Refused: n, Dropped: n}, Held: []api.Msg{m}}
		told := []api.Done{{Id: n, Result: api.Result{Err: api.Errno(n), Has: true, Body: odd}}, {Id: 0, Result: api.Result{Has: true, Body: odd}}, {Id: 1, Result: api.Result{Has: true}}, {Id: 2, Result: api.Result{Has: true}}, {Id: n, Result: api.Result{Has: true}}}
		for _, p := range []api.Plan{{}, unfit, plan(t, `handler a = echo with buffer 2 3; route "#" -> a;`), plan(t, `handler a = count caps save, load with limit 2 3; handler b = store caps save, load;`)} {
			for posts := range 5 {
				st := api.Bus{Now: n, Next: n, Turn: int(n), Asks: api.Asks{Next: n, Wait: []api.Ask{{Corr: n}}}, Posts: slices.Repeat([]api.Post{post}, posts)}
				b := Save(p, st)
				Load(p, b)
				Load(unfit, b)
				Give(p, st, Keep(p, st))
				Give(p, st, told)
			}
		}
	}
}

// P29.2: any bytes, with a sum that is right.
func TestAnyBytes(t *testing.T) {
	r := newRandom(10)
	p := plan(t, "")
	for range 20000 {
		b := make([]byte, r.IntN(40))
		for i := range b {
			b[i] = pick(r, 0, 0, 0, 0, 1, 2, byte(r.Uint32()))
		}
		loadAsSaid(t, p, b)
		loadAsSaid(t, p, enclosed(b))
		loadAsSaid(t, p, enclosed(append([]byte{0}, b...)))
	}
}

// filled is a value of a type with something in each field, as it stands in spare room.
func filled(typ reflect.Type) reflect.Value {
	v := reflect.New(typ).Elem()
	switch typ.Kind() {
	case reflect.Struct:
		for i := range typ.NumField() {
			v.Field(i).Set(filled(typ.Field(i).Type))
		}
	case reflect.Int, reflect.Int64:
		v.SetInt(77)
	case reflect.Uint8, reflect.Uint32, reflect.Uint64:
		v.SetUint(77)
	case reflect.String:
		v.SetString("spare")
	case reflect.Bool:
		v.SetBool(true)
	}
	return v
}

// roomy is a value whose lists, all of them, lie in memory with spare room on both sides, where something else stands.
func roomy(v reflect.Value) reflect.Value {
	out := reflect.New(v.Type()).Elem()
	switch v.Kind() {
	case reflect.Struct:
		for i := range v.NumField() {
			out.Field(i).Set(roomy(v.Field(i)))
		}
	case reflect.Slice:
		all := reflect.MakeSlice(v.Type(), v.Len()+3, v.Len()+3)
		for i := range all.Len() {
			all.Index(i).Set(filled(v.Type().Elem()))
		}
		for i := range v.Len() {
			all.Index(i + 1).Set(roomy(v.Index(i)))
		}
		out.Set(all.Slice(1, v.Len()+1))
	default:
		out.Set(v)
	}
	return out
}

func roomyOf[T any](x T) T { return roomy(reflect.ValueOf(x)).Interface().(T) }

// span is where a list lies, spare room too.
type span struct {
	begin, end uintptr
	all        reflect.Value
	used       int
}

// spans is all lists in a value.
func spans(x any) []span { return spansIn(reflect.ValueOf(x)) }

func spansIn(v reflect.Value) (l []span) {
	switch v.Kind() {
	case reflect.Struct:
		for i := range v.NumField() {
			l = append(l, spansIn(v.Field(i))...)
		}
	case reflect.Slice:
		if v.Cap() > 0 {
			begin := v.Pointer()
			l = append(l, span{begin, begin + uintptr(v.Cap())*v.Type().Elem().Size(), v.Slice(0, v.Cap()), v.Len()})
		}
		for i := range v.Len() {
			l = append(l, spansIn(v.Index(i))...)
		}
	}
	return l
}

// spared tells whether spare room is as roomy made it.
func spared(l []span) bool {
	for _, s := range l {
		for i := s.used; i < s.all.Len(); i++ {
			if !reflect.DeepEqual(s.all.Index(i).Interface(), filled(s.all.Type().Elem()).Interface()) {
				return false
			}
		}
	}
	return true
}

// spoil writes over lists, spare room too.
func spoil(l []span) {
	for _, s := range l {
		for i := range s.all.Len() {
			s.all.Index(i).SetZero()
		}
	}
}

// apart tells whether no two lists share memory.
func apart(l []span) bool {
	slices.SortFunc(l, func(a, b span) int { return int(a.begin) - int(b.begin) })
	for i := range len(l) - 1 {
		if l[i].end > l[i+1].begin {
			return false
		}
	}
	return true
}

// given is what is handed in.
type given struct {
	Plan  api.Plan
	State api.Bus
	Bytes []byte
	Kept  []api.Done
}

// answers is what is handed out.
type answers struct {
	Saved        []byte
	Loaded, Next api.Bus
	Err          api.Errno
	Kept, Told   []api.Done
}

func ask(x given) (a answers) {
	a.Saved = Save(x.Plan, x.State)
	a.Loaded, a.Err = Load(x.Plan, x.Bytes)
	a.Kept = Keep(x.Plan, x.State)
	a.Next, a.Told = Give(x.Plan, x.State, x.Kept)
	return a
}

func randomGiven(t testing.TB, r *rand.Rand) given {
	t.Helper()
	x := given{Plan: randomPlan(t, r)}
	x.State = randomState(t, r, x.Plan)
	x.Bytes = Save(x.Plan, randomState(t, r, x.Plan))
	x.Kept = randomKept(t, r, x.Plan, randomState(t, r, x.Plan))
	return x
}

// 0.3, 0.4: what is handed in stays as it is, spare room too, which plays no part, and is not kept; what is handed out is new memory, of which no two lists share any; what was answered does not hang on what becomes of either.
func TestMemory(t *testing.T) {
	r := newRandom(11)
	for range 400 {
		made := randomGiven(t, r)
		in := roomyOf(made)
		out := ask(in)
		was := roomyOf(out)
		if !spared(spans(in)) || !reflect.DeepEqual(roomyOf(made), in) {
			t.Fatalf("%v became %v", made, in)
		}
		if !apart(slices.Concat(spans(in), spans(out))) {
			t.Fatalf("%v: two lists share memory", made)
		}
		spoil(spans(in))
		if !sameAnswers(out, was) {
			t.Fatalf("%v: what was answered changed with what was handed in", made)
		}
		spoil(spans(out))
		if again := ask(made); !sameAnswers(again, was) {
			t.Fatalf("%v: %v, then %v", made, was, again)
		}
	}
}

func sameAnswers(a, b answers) bool {
	return bytes.Equal(a.Saved, b.Saved) && a.Err == b.Err && same(a.Loaded, b.Loaded) && same(a.Next, b.Next) && sameDones(a.Kept, b.Kept) && sameDones(a.Told, b.Told)
}

// 0.3: what is handed in is only read, so many may ask at a time.
func TestAtOnce(t *testing.T) {
	x := randomGiven(t, newRandom(12))
	want := ask(x)
	var all sync.WaitGroup
	for range 8 {
		all.Go(func() {
			for range 20 {
				if got := ask(x); !sameAnswers(got, want) {
					t.Errorf("%v, not %v", got, want)
				}
			}
		})
	}
	all.Wait()
}

// 0.8: what is nil and what is empty are the same.
func TestNilAndEmpty(t *testing.T) {
	p := plan(t, "handler a = count caps save, load with buffer 2 0 with dedup 2;")
	st := bus.New(p)
	empty := bus.New(p)
	empty.Asks.Wait = []api.Ask{}
	post := &empty.Posts[0]
	post.Inbox.Msgs, post.Held = []api.Msg{}, []api.Msg{}
	post.Built.Core.List = []api.Datum{}
	post.Built.Core.Last = api.Datum{List: []api.Datum{}}
	for i := range post.Built.Wraps {
		post.Built.Wraps[i].Dedup.Ids, post.Built.Wraps[i].Buffer.Msgs = []int64{}, []api.Msg{}
	}
	b := saveAsSaid(t, p, st)
	if other := saveAsSaid(t, p, empty); !bytes.Equal(b, other) {
		t.Errorf("% x, % x", b, other)
	}
	if x, y := keepAsSaid(t, p, st), keepAsSaid(t, p, empty); !sameDones(x, y) || len(x) != 1 {
		t.Error(x, y)
	}
	for _, l := range [][]api.Done{nil, {}} {
		if next, told := giveAsSaid(t, p, empty, l); !same(next, st) || len(told) != 0 {
			t.Error(next, told)
		}
	}
	none := plan(t, "")
	for _, st := range []api.Bus{{}, {Posts: []api.Post{}}} {
		if b := saveAsSaid(t, none, st); len(b) != 16 || len(keepAsSaid(t, none, st)) != 0 {
			t.Errorf("% x", b)
		}
	}
	for _, b := range [][]byte{nil, {}} {
		if _, e := loadAsSaid(t, p, b); e != api.ErrForm {
			t.Error(e)
		}
	}
}

// FuzzBytes looks for bytes of which Load answers something else than the chapter says, as they are and with a sum; what it takes must be written so.
func FuzzBytes(f *testing.F) {
	r := newRandom(13)
	for seed := range uint64(30) {
		p := randomPlan(f, newRandom(seed))
		b := Save(p, randomState(f, r, p))
		f.Add(seed, b)
		f.Add(seed, inner(b))
		f.Add(seed, inner(Save(p, randomUnfit(f, r))))
	}
	f.Fuzz(func(t *testing.T, seed uint64, b []byte) {
		p := randomPlan(t, newRandom(seed))
		for _, x := range [][]byte{b, enclosed(b)} {
			if st, e := loadAsSaid(t, p, x); e == api.OK && !bytes.Equal(Save(p, st), x) {
				t.Fatalf("% x is not what is written", x)
			}
		}
	})
}
