package replay

import (
	"bytes"
	"math"
	"reflect"
	"slices"
	"testing"

	"conduit/api"
	"conduit/check"
)

// Every call ends and none panics, at plans, steps and events of which nothing else is promised too.
func TestAnything(t *testing.T) {
	for _, n := range []int64{math.MinInt64, -1, 0, 1, api.MaxTick + 1, math.MaxInt64} {
		odd := api.Datum{Kind: int(n), Int: n, List: make([]api.Datum, 3)}
		e := api.Event{Kind: int(n), At: n, Id: n, Handler: int(n), Corr: n, Result: api.Result{Err: api.Errno(n), Code: n, Panic: api.Panic{Kind: int(n), Num: n}, Has: true, Body: odd}}
		Event(e)
		wraps := []api.Wrap{{Op: int(n), A: n, B: n, Open: true}}
		unfit := api.Plan{
			Handlers: []api.Named{{Name: "a", Chain: api.Chain{Core: api.Core{Op: int(n), Num: n}, Wraps: wraps}, Inbox: int(n), Drop: int(n), After: []int{int(n), 0}}},
			Routes:   []api.Route{{Filter: "#", Handler: int(n)}, {Filter: "x"}, {Filter: "#", Want: api.Want{Op: int(n)}}},
		}
		for kind := -1; kind <= api.NumSteps; kind++ {
			m := api.Msg{Id: n, Topic: "x", Body: odd, At: n, Until: n, Reply: "#", Corr: n, Prio: int(n), Hops: int(n)}
			s := api.Step{Kind: kind, Msg: m, N: n, Handler: int(n), Cap: int(n), Arg: odd, Deep: true}
			Step(s)
			for _, p := range []api.Plan{{}, unfit, plan(t, `handler a = echo with buffer 2 3; route "#" -> a;`)} {
				b, _ := Record(p, []api.Step{s, publishing("x", number(1)), s, working(2), ticking(3), closing()})
				Read(b)
				Play(p, b)
			}
		}
	}
}

// P28.3, P28.4: of any bytes.
func TestAnyRecords(t *testing.T) {
	r := newRandom(9)
	p := plan(t, `handler a = echo; route "#" -> a;`)
	for range 3000 {
		records := [][]byte{planRecord(check.Write(p))}
		for range r.IntN(5) {
			record := make([]byte, r.IntN(12))
			for i := range record {
				record[i] = pick(r, 0, 1, 2, 3, byte(r.Uint32()))
			}
			records = append(records, record)
		}
		b := journalOf(t, records...)
		readAsSaid(t, b)
		playAsSaid(t, p, b)
	}
}

// P28.2, P28.4: steps that ask for more work and time than there are.
func TestLongSteps(t *testing.T) {
	p := plan(t, `handler a = echo; route "#" -> a;`)
	l := []api.Step{publishing("x", number(1)), working(api.MaxTick), ticking(api.MaxTick), ticking(api.MaxTick), {Kind: api.StCall, Handler: math.MinInt, Cap: math.MaxInt}, closing(), working(api.MaxTick)}
	b, e := recordAsSaid(t, p, l)
	if d, fault := playAsSaid(t, p, b); e != api.OK || d.Is || fault != api.OK {
		t.Error(e, d, fault)
	}
}

// filled is a value of a type with something in each field, as it stands in spare room.
func filled(typ reflect.Type) reflect.Value {
	v := reflect.New(typ).Elem()
	switch typ.Kind() {
	case reflect.Struct:
		for i := range typ.NumField() {
			v.Field(i).Set(filled(typ.Field(i).Type))
		}
	case reflect.Int, reflect.Int64:
		v.SetInt(77)
	case reflect.Uint8, reflect.Uint32, reflect.Uint64:
		v.SetUint(77)
	case reflect.String:
		v.SetString("spare")
	case reflect.Bool:
		v.SetBool(true)
	}
	return v
}

// roomy is a value whose lists, all of them, lie in memory with spare room on both sides, where something else stands.
func roomy(v reflect.Value) reflect.Value {
	out := reflect.New(v.Type()).Elem()
	switch v.Kind() {
	case reflect.Struct:
		for i := range v.NumField() {
			out.Field(i).Set(roomy(v.Field(i)))
		}
	case reflect.Slice:
		all := reflect.MakeSlice(v.Type(), v.Len()+3, v.Len()+3)
		for i := range all.Len() {
			all.Index(i).Set(filled(v.Type().Elem()))
		}
		for i := range v.Len() {
			all.Index(i + 1).Set(roomy(v.Index(i)))
		}
		out.Set(all.Slice(1, v.Len()+1))
	default:
		out.Set(v)
	}
	return out
}

func roomyOf[T any](x T) T { return roomy(reflect.ValueOf(x)).Interface().(T) }

// span is where a list lies, spare room too.
type span struct {
	begin, end uintptr
	all        reflect.Value
	used       int
}

// spans is all lists in a value.
func spans(x any) []span { return spansIn(reflect.ValueOf(x)) }

func spansIn(v reflect.Value) (l []span) {
	switch v.Kind() {
	case reflect.Struct:
		for i := range v.NumField() {
			l = append(l, spansIn(v.Field(i))...)
		}
	case reflect.Slice:
		if v.Cap() > 0 {
			begin := v.Pointer()
			l = append(l, span{begin, begin + uintptr(v.Cap())*v.Type().Elem().Size(), v.Slice(0, v.Cap()), v.Len()})
		}
		for i := range v.Len() {
			l = append(l, spansIn(v.Index(i))...)
		}
	}
	return l
}

// spared tells whether spare room is as roomy made it.
func spared(l []span) bool {
	for _, s := range l {
		for i := s.used; i < s.all.Len(); i++ {
			if !reflect.DeepEqual(s.all.Index(i).Interface(), filled(s.all.Type().Elem()).Interface()) {
				return false
			}
		}
	}
	return true
}

// spoil writes over lists, spare room too.
func spoil(l []span) {
	for _, s := range l {
		for i := range s.all.Len() {
			s.all.Index(i).SetZero()
		}
	}
}

// apart tells whether no two lists share memory.
func apart(l []span) bool {
	slices.SortFunc(l, func(a, b span) int { return int(a.begin) - int(b.begin) })
	for i := range len(l) - 1 {
		if l[i].end > l[i+1].begin {
			return false
		}
	}
	return true
}

// given is what is handed in.
type given struct {
	Plan  api.Plan
	Steps []api.Step
	Event api.Event
	Bytes []byte
}

// answers is what is handed out.
type answers struct {
	Step, Event, Recording []byte
	Steps                  []api.Step
	Events                 [][]api.Event
	Text                   string
	Diff                   api.Diff
}

func ask(x given) (a answers) {
	if len(x.Steps) > 0 {
		a.Step = Step(x.Steps[0])
	}
	a.Event = Event(x.Event)
	a.Recording, _ = Record(x.Plan, x.Steps)
	a.Text, a.Steps, a.Events, _ = Read(x.Bytes)
	a.Diff, _ = Play(x.Plan, x.Bytes)
	return a
}

// 0.3, 0.4: what is handed in stays as it is, spare room too, which plays no part, and is not kept; what is handed out is new memory, of which no two lists share any; what was answered does not hang on what becomes of either.
func TestMemory(t *testing.T) {
	r := newRandom(10)
	for range 800 {
		made := given{Plan: randomPlan(t, r), Steps: randomSteps(t, r), Event: randomEvent(t, r)}
		made.Bytes, _ = Record(made.Plan, randomSteps(t, r))
		in := roomyOf(made)
		out := ask(in)
		was := roomyOf(out)
		if !spared(spans(in)) || !reflect.DeepEqual(roomyOf(made), in) {
			t.Fatalf("%v became %v", made, in)
		}
		if !apart(slices.Concat(spans(in), spans(out))) {
			t.Fatalf("%v: two lists share memory", made)
		}
		spoil(spans(in))
		if !sameAnswers(out, was) {
			t.Fatalf("%v: what was answered changed with what was handed in", made)
		}
		spoil(spans(out))
		if again := ask(made); !sameAnswers(again, was) {
			t.Fatalf("%v: %v, then %v", made, was, again)
		}
	}
}

func sameAnswers(a, b answers) bool {
	bytesToo := bytes.Equal(a.Step, b.Step) && bytes.Equal(a.Event, b.Event) && bytes.Equal(a.Recording, b.Recording)
	return bytesToo && a.Diff == b.Diff && sameTold(told{text: a.Text, steps: a.Steps, events: a.Events}, told{text: b.Text, steps: b.Steps, events: b.Events})
}

// 0.8: what is nil and what is empty are the same.
func TestNilAndEmpty(t *testing.T) {
	s := publishing("x", list())
	if empty := publishing("x", api.Datum{Kind: api.KList, List: []api.Datum{}}); !bytes.Equal(Step(s), Step(empty)) {
		t.Error("an empty list")
	}
	p := plan(t, "")
	x, _ := recordAsSaid(t, p, nil)
	y, _ := recordAsSaid(t, api.Plan{Handlers: []api.Named{}, Routes: []api.Route{}}, []api.Step{})
	if !bytes.Equal(x, y) {
		t.Errorf("% x, % x", x, y)
	}
	for _, b := range [][]byte{nil, {}} {
		if x := readAsSaid(t, b); x.e != api.ErrForm {
			t.Error(x)
		}
	}
}

// FuzzBytes looks for bytes of which Read or Play answers something else than the chapter says: as they are, as a record and as many.
func FuzzBytes(f *testing.F) {
	r := newRandom(11)
	for seed := range uint64(20) {
		f.Add(seed, Step(randomStep(f, r)))
		f.Add(seed, Event(randomEvent(f, r)))
		p := randomPlan(f, newRandom(seed))
		b, _ := Record(p, randomSteps(f, r))
		f.Add(seed, b[:min(len(b), 500)])
	}
	f.Fuzz(func(t *testing.T, seed uint64, b []byte) {
		p := randomPlan(t, newRandom(seed))
		ahead := planRecord(check.Write(p))
		if len(b) > api.MaxRecord {
			return
		}
		records := slices.Insert(bytes.Split(b, []byte{'|'}), 0, ahead)
		for _, x := range [][]byte{b, journalOf(t, b), journalOf(t, ahead, b), journalOf(t, ahead, Step(closing()), b), journalOf(t, records...), append(journalOf(t, ahead), b...)} {
			if got := readAsSaid(t, x); len(got.steps) < 50 {
				playAsSaid(t, p, x)
			}
		}
	})
}
