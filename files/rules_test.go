package files

import (
	"math"
	"math/rand/v2"
	"reflect"
	"slices"
	"strings"
	"sync"
	"testing"

	"conduit/api"
)

// unfitStores are some of which nothing is promised but that all calls end.
func unfitStores() []api.Store {
	most := make([]string, api.MaxFiles+1)
	for i := range most {
		most[i] = strings.Repeat("a/", i) + "b"
	}
	return []api.Store{
		of(32, false, "a"), of(math.MaxUint32, true, "a/b", "c"),
		of(0, false, ""), of(31, true, "."), of(31, false, "/", "//", "a//b", "a/"), of(0, false, "..", "../a", "./b"), of(2, false, "\xff/a"),
		of(0, false, "a", "a", "a"), of(31, false, "a", "a/b", "a/b/c"), of(4, false, "a/b/c", "a/b", "a"),
		of(0, false, text(5000), "b"), of(0, false, "a="+text(api.MaxBytes+1)), of(0, false, strings.Repeat("a/", 5000)+"a"), of(0, false, most...),
	}
}

var oddTexts = []string{"", ".", "/", "..", "a", "a/b", "a/", "/a", "//", "*", "*/*", "/*", "**/", "[", `\`, "[a/b]*", "\xff", "\x00", "[\xff-\x00]", text(2000), strings.Repeat("*/", 3000), strings.Repeat("[", 2000), strings.Repeat("*a", 2000), strings.Repeat("a/", 3000)}

// 0.1: every call ends and none panics, of stores of which nothing else is promised too.
func TestAnything(t *testing.T) {
	r := newRandom(11)
	stores := append(unfitStores(), api.Store{}, randomStore(r, randomPath), given(31))
	for _, s := range oddTexts {
		Valid(s)
		for _, name := range oddTexts {
			Match(s, name)
		}
		for _, st := range stores {
			calls(st, s, s, oddTexts)
		}
	}
}

// Of a store that is not fit nothing is told.
func TestUnfit(t *testing.T) {
	for _, st := range unfitStores() {
		if Fit(st) {
			t.Fatalf("%.99v", st)
		}
		for i, got := range calls(st, ".", "*", nil) {
			if !same(got, answers{}) {
				t.Errorf("call %d, %.99v: %.99v", i, st, got)
			}
		}
	}
}

// filled is a value of a type with something in each field, as it stands in spare room.
func filled(typ reflect.Type) reflect.Value {
	v := reflect.New(typ).Elem()
	switch typ.Kind() {
	case reflect.Struct:
		for i := range typ.NumField() {
			v.Field(i).Set(filled(typ.Field(i).Type))
		}
	case reflect.Int, reflect.Int64:
		v.SetInt(1)
	case reflect.Uint64:
		v.SetUint(1)
	case reflect.String:
		v.SetString("#")
	case reflect.Bool:
		v.SetBool(true)
	}
	return v
}

// roomy is a value whose lists, all of them, lie in memory with spare room behind them, where something else stands.
func roomy(v reflect.Value) reflect.Value {
	out := reflect.New(v.Type()).Elem()
	switch v.Kind() {
	case reflect.Struct:
		for i := range v.NumField() {
			out.Field(i).Set(roomy(v.Field(i)))
		}
	case reflect.Slice:
		all := reflect.MakeSlice(v.Type(), v.Len()+2, v.Len()+2)
		for i := range all.Len() {
			all.Index(i).Set(filled(v.Type().Elem()))
		}
		for i := range v.Len() {
			all.Index(i).Set(roomy(v.Index(i)))
		}
		out.Set(all.Slice(0, v.Len()))
	default:
		out.Set(v)
	}
	return out
}

func roomyOf[T any](x T) T { return roomy(reflect.ValueOf(x)).Interface().(T) }

// span is where a list lies, spare room too.
type span struct {
	begin, end uintptr
	all        reflect.Value
}

// spans is all lists in a value.
func spans(v reflect.Value) (l []span) {
	switch v.Kind() {
	case reflect.Struct:
		for i := range v.NumField() {
			l = append(l, spans(v.Field(i))...)
		}
	case reflect.Slice:
		if v.Cap() > 0 {
			begin := v.Pointer()
			l = append(l, span{begin, begin + uintptr(v.Cap())*v.Type().Elem().Size(), v.Slice(0, v.Cap())})
		}
		for i := range v.Len() {
			l = append(l, spans(v.Index(i))...)
		}
	}
	return l
}

func spansOf(x any) []span { return spans(reflect.ValueOf(x)) }

// spoil writes over lists, spare room too.
func spoil(l []span) {
	for _, s := range l {
		for i := range s.all.Len() {
			s.all.Index(i).SetZero()
		}
	}
}

// apart tells whether no two of these lists share memory, nor one of them and one of the others.
func apart(l, others []span) bool {
	slices.SortFunc(l, func(a, b span) int { return int(a.begin) - int(b.begin) })
	for i := range len(l) - 1 {
		if l[i].end > l[i+1].begin {
			return false
		}
	}
	for _, s := range others {
		if slices.ContainsFunc(l, func(x span) bool { return s.begin < x.end && x.begin < s.end }) {
			return false
		}
	}
	return true
}

// whole is all that a value's lists have room for.
func whole(x any) (l []any) {
	for _, s := range spansOf(x) {
		l = append(l, s.all.Interface())
	}
	return l
}

// listsOf is all that was told and handed out in lists.
func listsOf(l []answers) (all []span) {
	for _, a := range l {
		all = append(all, spansOf(a.infos)...)
		all = append(all, spansOf(a.paths)...)
		all = append(all, spansOf(a.store)...)
		all = append(all, spansOf(a.asked)...)
	}
	return all
}

func sameAll(a, b []answers) bool { return slices.EqualFunc(a, b, same) }

// some is a store, and what is asked of it.
func some(r *rand.Rand) (st api.Store, path, pattern string, skip []string) {
	st = randomStore(r, randomPath)
	return st, somePath(r, st), randomPattern(r), randomSkip(r, st)
}

// 0.3, 0.4, 0.8: what is handed in stays as it is, spare room too, which plays no part, and is not kept; what is handed out is new memory, of which no two lists share any, and does not hang on what becomes of either.
func TestMemory(t *testing.T) {
	r := newRandom(12)
	for range 3000 {
		st, path, pattern, skip := some(r)
		said := calls(st, path, pattern, skip)
		in, leaves := roomyOf(st), roomyOf(skip)
		got := calls(in, path, pattern, leaves)
		if !sameAll(got, said) {
			t.Fatalf("%+v: spare room plays a part", st)
		}
		if !reflect.DeepEqual(whole(in), whole(roomyOf(st))) || !reflect.DeepEqual(whole(leaves), whole(roomyOf(skip))) {
			t.Fatalf("%+v %q: changed", st, skip)
		}
		all, handed := listsOf(got), append(spansOf(in), spansOf(leaves)...)
		if !apart(all, handed) {
			t.Fatalf("%+v: lists share memory", st)
		}
		spoil(handed)
		if !sameAll(got, said) {
			t.Fatalf("%+v: what was told changed with what was handed in", st)
		}
		spoil(all)
		if !sameAll(calls(st, path, pattern, skip), said) {
			t.Fatalf("%+v: another answer", st)
		}
	}
}

// 0.5: beside an error stands what was asked, and what a walk has come to; nothing else.
func TestBeside(t *testing.T) {
	r := newRandom(13)
	var met [2]int
	for range 20000 {
		st, path, pattern, skip := some(r)
		for i, got := range calls(st, path, pattern, skip) {
			if got.e == api.OK {
				continue
			}
			said := answers{asked: got.asked, e: got.e}
			if i == 5 && got.e == api.ErrBlind {
				said.paths = got.paths
				met[0]++
			}
			met[1]++
			if !same(got, said) {
				t.Fatalf("call %d, %+v %q %q: %+v", i, st, path, pattern, got)
			}
		}
	}
	if met[0] < 500 || met[1] < 5000 {
		t.Error(met)
	}
}

// 0.8: a list that is nil and one that is empty are the same.
func TestNilAndEmpty(t *testing.T) {
	r := newRandom(14)
	for range 1000 {
		_, path, pattern, _ := some(r)
		for _, st := range []api.Store{{}, {Caps: 31}, {Blind: true}, given(0)} {
			with := emptied(st)
			if !sameAll(calls(st, path, pattern, nil), calls(with, path, pattern, []string{})) || Fit(st) != Fit(with) {
				t.Fatalf("%+v %q %q", st, path, pattern)
			}
		}
	}
}

// emptied has an empty list wherever there is nil.
func emptied[T any](x T) T {
	v := reflect.New(reflect.TypeFor[T]()).Elem()
	v.Set(reflect.ValueOf(roomyOf(x)))
	empty(v)
	return v.Interface().(T)
}

func empty(v reflect.Value) {
	switch v.Kind() {
	case reflect.Struct:
		for i := range v.NumField() {
			empty(v.Field(i))
		}
	case reflect.Slice:
		if v.IsNil() {
			v.Set(reflect.MakeSlice(v.Type(), 0, 0))
		}
		for i := range v.Len() {
			empty(v.Index(i))
		}
	}
}

// 0.3: many at a time ask the same store.
func TestManyAtATime(t *testing.T) {
	r := newRandom(15)
	st, path, pattern, skip := some(r)
	st.Caps = 31
	said := calls(st, path, pattern, skip)
	var all sync.WaitGroup
	for range 8 {
		all.Go(func() {
			for range 50 {
				if !sameAll(calls(st, path, pattern, skip), said) {
					t.Error("another answer")
				}
			}
		})
	}
	all.Wait()
}

// builder makes stores of bytes, each byte a choice.
type builder struct{ rest []byte }

func (b *builder) next(n int) int {
	if len(b.rest) == 0 {
		return 0
	}
	c := int(b.rest[0])
	b.rest = b.rest[1:]
	return c % n
}

func (b *builder) path() string {
	l := make([]string, 1+b.next(4))
	for i := range l {
		l[i] = []string{"a", "b", "ab", "a-b", "*", "[", `\`, "é"}[b.next(8)]
	}
	return strings.Join(l, "/")
}

func (b *builder) store() api.Store {
	st := api.Store{Caps: uint32(b.next(32)), Blind: b.next(4) == 1}
	for range b.next(9) {
		more := st
		more.Files = append(slices.Clone(st.Files), api.Entry{Path: b.path(), Data: text(b.next(4))})
		if Fit(more) {
			st = more
		}
	}
	return st
}

// FuzzStores looks for a store of which something else is told than should be.
func FuzzStores(f *testing.F) {
	r := newRandom(16)
	for range 50 {
		b := make([]byte, r.IntN(60))
		for i := range b {
			b[i] = byte(r.IntN(256))
		}
		f.Add(b, randomPath(r), randomPattern(r), randomPath(r))
	}
	f.Fuzz(func(t *testing.T, choices []byte, path, pattern, skip string) {
		if len(path) > 2000 || len(pattern) > 60 {
			return
		}
		if Valid(path) != chapterValid(path) {
			t.Fatalf("%q", path)
		}
		is, e := Match(pattern, path)
		if said, fault := chapterMatch(pattern, path); is != said || e != fault {
			t.Fatalf("%q %q: %v %v, not %v %v", pattern, path, is, e, said, fault)
		}
		b := &builder{choices}
		asSaid(t, b.store(), path, pattern, []string{skip, b.path()})
		asSaid(t, b.store(), b.path(), pattern, []string{b.path()})
	})
}
