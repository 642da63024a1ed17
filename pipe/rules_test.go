package pipe

import (
	"math"
	"math/rand/v2"
	"reflect"
	"slices"
	"sync"
	"testing"

	"conduit/api"
)

var odd = []int{math.MinInt64, -2, -1, 0, 1, 2, 3, 63, 64, 65, api.MaxBytes, api.MaxBytes + 1, math.MaxInt64}

// unfitSources and unfitSinks are some of which nothing is promised but that all calls end.
func unfitSources(r *rand.Rand) (l []api.Source) {
	for _, n := range odd {
		l = append(l, api.Source{Data: "abc", Sizes: []int{n}}, api.Source{Data: "abc", Sizes: []int{0, n}, Writes: true}, around(abcde, limit(int64(n))), around(abcde, api.Pipe{Op: n}), around(abcde, tee(api.Sink0{Room: n})), around(abcde, tee(api.Sink0{Reads: true, Bulk: n})))
	}
	return append(l, api.Source{}, around(abcde, many(counter, 100)...), api.Source{Sizes: many(0, 100)}, randomSource(r))
}

func unfitSinks(r *rand.Rand) (l []api.Sink) {
	for _, n := range odd {
		l = append(l, inSink(api.Sink0{Room: n}), inSink(api.Sink0{Room: n, Over: true}), inSink(api.Sink0{Room: -1, Sizes: []int{0, n}}), reading(anySink, n), aroundTo(anySink, api.Pipe{Op: n}), aroundTo(anySink, limit(int64(n))))
	}
	return append(l, aroundTo(reading(anySink, 1), many(counter, 100)...), randomSink(r))
}

// 0.1: every call ends and none panics, at ends of which nothing else is promised too.
func TestAnything(t *testing.T) {
	r := newRandom(7)
	for _, src := range unfitSources(r) {
		for _, dst := range unfitSinks(r) {
			Way(src, dst)
			for _, n := range odd {
				Copy(src, dst, n)
				CopyN(src, dst, int64(n), pick(r, odd...))
			}
		}
		for _, n := range odd {
			All(src, n)
			for _, least := range odd {
				ReadAtLeast(src, least, n)
			}
		}
	}
}

// filled is a value of a type with something in each field, as it stands in spare room.
func filled(typ reflect.Type) reflect.Value {
	v := reflect.New(typ).Elem()
	switch typ.Kind() {
	case reflect.Struct:
		for i := range typ.NumField() {
			v.Field(i).Set(filled(typ.Field(i).Type))
		}
	case reflect.Int, reflect.Int64:
		v.SetInt(1)
	case reflect.Uint64:
		v.SetUint(1)
	case reflect.String:
		v.SetString("#")
	case reflect.Bool:
		v.SetBool(true)
	}
	return v
}

// roomy is a value whose lists, all of them, lie in memory with spare room behind them, where something else stands.
func roomy(v reflect.Value) reflect.Value {
	out := reflect.New(v.Type()).Elem()
	switch v.Kind() {
	case reflect.Struct:
		for i := range v.NumField() {
			out.Field(i).Set(roomy(v.Field(i)))
		}
	case reflect.Slice:
		all := reflect.MakeSlice(v.Type(), v.Len()+2, v.Len()+2)
		for i := range all.Len() {
			all.Index(i).Set(filled(v.Type().Elem()))
		}
		for i := range v.Len() {
			all.Index(i).Set(roomy(v.Index(i)))
		}
		out.Set(all.Slice(0, v.Len()))
	default:
		out.Set(v)
	}
	return out
}

func roomyOf[T any](x T) T { return roomy(reflect.ValueOf(x)).Interface().(T) }

// span is where a list lies, spare room too.
type span struct {
	begin, end uintptr
	all        reflect.Value
}

// spans is all lists in a value.
func spans(v reflect.Value) (l []span) {
	switch v.Kind() {
	case reflect.Struct:
		for i := range v.NumField() {
			l = append(l, spans(v.Field(i))...)
		}
	case reflect.Slice:
		if v.Cap() > 0 {
			begin := v.Pointer()
			l = append(l, span{begin, begin + uintptr(v.Cap())*v.Type().Elem().Size(), v.Slice(0, v.Cap())})
		}
		for i := range v.Len() {
			l = append(l, spans(v.Index(i))...)
		}
	}
	return l
}

func spansOf(x any) []span { return spans(reflect.ValueOf(x)) }

// spoil writes over lists, spare room too.
func spoil(l []span) {
	for _, s := range l {
		for i := range s.all.Len() {
			s.all.Index(i).SetZero()
		}
	}
}

// apart tells whether no two of these lists share memory, nor one of them and one of the others.
func apart(l, others []span) bool {
	slices.SortFunc(l, func(a, b span) int { return int(a.begin) - int(b.begin) })
	for i := range len(l) - 1 {
		if l[i].end > l[i+1].begin {
			return false
		}
	}
	for _, s := range others {
		if slices.ContainsFunc(l, func(x span) bool { return s.begin < x.end && x.begin < s.end }) {
			return false
		}
	}
	return true
}

// whole is all that a value's lists have room for.
func whole(x any) (l []any) {
	for _, s := range spansOf(x) {
		l = append(l, s.all.Interface())
	}
	return l
}

// answered is what all calls answer: that which hands out lists, and the rest.
func answered(src api.Source, dst api.Sink, n, size int) (copies []api.Copied, rest []any) {
	copies = []api.Copied{Copy(src, dst, size), CopyN(src, dst, int64(n), size)}
	all, e := All(src, size)
	some, fault := ReadAtLeast(src, n, size)
	return copies, []any{all, e, some, fault, Way(src, dst), Source(src), Sink(dst)}
}

func sameAnswers(a, b []api.Copied) bool { return slices.EqualFunc(a, b, sameCopied) }

// 0.3, 0.4, 0.8: what is handed in stays as it is, spare room too, which plays no part, and is not kept; what is handed out is new memory, of which no two lists share any, and does not hang on what becomes of either.
func TestMemory(t *testing.T) {
	r := newRandom(8)
	for range 3000 {
		src, dst, n, size := randomSource(r), randomSink(r), r.IntN(12), 1+r.IntN(9)
		copies, rest := answered(src, dst, n, size)
		in, to := roomyOf(src), roomyOf(dst)
		got, gotRest := answered(in, to, n, size)
		if !sameAnswers(got, copies) || !slices.Equal(gotRest, rest) {
			t.Fatalf("%+v %+v: spare room plays a part", src, dst)
		}
		if !reflect.DeepEqual(whole(in), whole(roomyOf(src))) || !reflect.DeepEqual(whole(to), whole(roomyOf(dst))) {
			t.Fatalf("%+v %+v: changed", src, dst)
		}
		all, handed := spansOf(got[0]), append(spansOf(in), spansOf(to)...)
		all = append(all, spansOf(got[1])...)
		if !apart(all, handed) {
			t.Fatalf("%+v %+v: lists share memory", src, dst)
		}
		spoil(handed)
		if !sameAnswers(got, copies) {
			t.Fatalf("%+v %+v: what was told changed with what was handed in", src, dst)
		}
		spoil(all)
		if again, againRest := answered(src, dst, n, size); !sameAnswers(again, copies) || !slices.Equal(againRest, rest) {
			t.Fatalf("%+v %+v: another answer", src, dst)
		}
	}
}

// 0.5: beside ErrSmall stands nothing.
func TestBeside(t *testing.T) {
	r := newRandom(9)
	for range 3000 {
		if s, e := ReadAtLeast(randomSource(r), 1+r.IntN(20), 1+r.IntN(20)); s != "" && e == api.ErrSmall {
			t.Fatalf("%q", s)
		}
	}
}

// 0.8: a list that is nil and one that is empty are the same.
func TestNilAndEmpty(t *testing.T) {
	r := newRandom(10)
	for range 2000 {
		src, dst, n, size := randomSource(r), randomSink(r), r.IntN(12), 1+r.IntN(9)
		copies, rest := answered(src, dst, n, size)
		got, gotRest := answered(emptied(src), emptied(dst), n, size)
		if !sameAnswers(got, copies) || !slices.Equal(gotRest, rest) {
			t.Fatalf("%+v %+v", src, dst)
		}
	}
}

// emptied has an empty list wherever there is nil.
func emptied[T any](x T) T {
	v := reflect.New(reflect.TypeFor[T]()).Elem()
	v.Set(reflect.ValueOf(roomyOf(x)))
	empty(v)
	return v.Interface().(T)
}

func empty(v reflect.Value) {
	switch v.Kind() {
	case reflect.Struct:
		for i := range v.NumField() {
			empty(v.Field(i))
		}
	case reflect.Slice:
		if v.IsNil() {
			v.Set(reflect.MakeSlice(v.Type(), 0, 0))
		}
		for i := range v.Len() {
			empty(v.Index(i))
		}
	}
}

// 0.3: many at a time copy from the same source to the same sink.
func TestManyAtATime(t *testing.T) {
	r := newRandom(11)
	src, dst := randomSource(r), randomSink(r)
	copies, rest := answered(src, dst, 3, 4)
	var all sync.WaitGroup
	for range 8 {
		all.Go(func() {
			for range 50 {
				if l, also := answered(src, dst, 3, 4); !sameAnswers(l, copies) || !slices.Equal(also, rest) {
					t.Error("another answer")
				}
			}
		})
	}
	all.Wait()
}

// builder makes ends of bytes, each byte a choice.
type builder struct{ rest []byte }

func (b *builder) next(n int) int {
	if len(b.rest) == 0 {
		return 0
	}
	c := int(b.rest[0])
	b.rest = b.rest[1:]
	return c % n
}

func (b *builder) sizes() (l []int) {
	for range b.next(4) {
		l = append(l, b.next(5))
	}
	if len(l) > 0 {
		l[b.next(len(l))] = 1 + b.next(6)
	}
	return l
}

func (b *builder) inner() api.Sink0 {
	return api.Sink0{Sizes: b.sizes(), Room: b.next(18) - 1, Over: b.next(8) == 1}
}

func (b *builder) source() api.Source {
	s := api.Source{Sizes: b.sizes(), Early: b.next(2) == 1, Broken: b.next(3) == 1, Writes: b.next(2) == 1}
	for range b.next(6) {
		p := api.Pipe{Op: api.PiPlain + b.next(4)}
		switch p.Op {
		case api.PiLimit:
			p.N = int64(b.next(20) - 2)
		case api.PiTee:
			p.Side = b.inner()
		}
		s.Wraps = append(s.Wraps, p)
	}
	return s
}

func (b *builder) sink() api.Sink {
	s := api.Sink{Inner: b.inner()}
	if b.next(2) == 1 {
		s = reading(s, 1+b.next(8))
	}
	for range b.next(4) {
		s.Wraps = append(s.Wraps, api.Pipe{Op: api.PiPlain + b.next(2)})
	}
	return s
}

// FuzzCopies looks for a source and a sink of which something else becomes than by Go's io.
func FuzzCopies(f *testing.F) {
	r := newRandom(12)
	for range 50 {
		b := make([]byte, r.IntN(60))
		for i := range b {
			b[i] = byte(r.IntN(256))
		}
		f.Add(b, randomData(r))
	}
	f.Fuzz(func(t *testing.T, choices []byte, data string) {
		b := &builder{choices}
		src, dst := b.source(), b.sink()
		src.Data = data[:min(len(data), 200)]
		asSaid(t, src, dst, int64(b.next(30)-3), b.next(30)-3, 1+b.next(20))
	})
}
