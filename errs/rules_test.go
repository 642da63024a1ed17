package errs

import (
	"reflect"
	"slices"
	"strings"
	"sync"
	"testing"

	"conduit/api"
)

// 0.1: every call ends and none panics, at errors of which nothing else is promised too.
func TestAnything(t *testing.T) {
	r := newRandom(9)
	oddOnes := []api.Err{{Kind: api.EkWrap}, {Kind: api.EkLike, List: make([]api.Err, 3)}, {Kind: api.EkMany, Id: -1}, {Kind: api.EkPtr}, {Kind: api.EkHold, Body: api.Datum{Kind: 99}}, {Kind: api.EkHold, Body: api.Datum{Kind: api.KPair}}, {Kind: api.EkTime, Code: 77}, {Kind: -1}, {Kind: api.NumEk}, {Kind: api.EkNil, List: []api.Err{p}}, wrap(1, "", none), many(0, api.Err{Kind: -5})}
	for _, e := range append(oddOnes, kinds(t)...) {
		for _, other := range append(oddOnes, some(t, r)) {
			Valid(e)
			Same(e, other)
			Text(e)
			Equal(e, other)
			Unwrap(e)
			Walk(e)
			Is(e, other)
			Is(wrap(1, "", e), other)
			Join([]api.Err{e, other}, e.Id)
			Result(e)
			for _, n := range odd {
				Has(n, n)
				As(e, n)
				AsFace(e, n)
			}
		}
	}
}

// filled is a value of a type with something in each field, as it stands in spare room.
func filled(typ reflect.Type) reflect.Value {
	v := reflect.New(typ).Elem()
	switch typ.Kind() {
	case reflect.Struct:
		for i := range typ.NumField() {
			v.Field(i).Set(filled(typ.Field(i).Type))
		}
	case reflect.Int, reflect.Int64:
		v.SetInt(1)
	case reflect.Uint64:
		v.SetUint(1)
	case reflect.String:
		v.SetString("#")
	}
	return v
}

// roomy is a value whose lists, all of them, lie in memory with spare room behind them, where something else stands.
func roomy(v reflect.Value) reflect.Value {
	out := reflect.New(v.Type()).Elem()
	switch v.Kind() {
	case reflect.Struct:
		for i := range v.NumField() {
			out.Field(i).Set(roomy(v.Field(i)))
		}
	case reflect.Slice:
		all := reflect.MakeSlice(v.Type(), v.Len()+2, v.Len()+2)
		for i := range all.Len() {
			all.Index(i).Set(filled(v.Type().Elem()))
		}
		for i := range v.Len() {
			all.Index(i).Set(roomy(v.Index(i)))
		}
		out.Set(all.Slice(0, v.Len()))
	default:
		out.Set(v)
	}
	return out
}

func roomyOf[T any](x T) T { return roomy(reflect.ValueOf(x)).Interface().(T) }

// span is where a list lies, spare room too.
type span struct {
	begin, end uintptr
	all        reflect.Value
}

// spans is all lists in a value.
func spans(v reflect.Value) (l []span) {
	switch v.Kind() {
	case reflect.Struct:
		for i := range v.NumField() {
			l = append(l, spans(v.Field(i))...)
		}
	case reflect.Slice:
		if v.Cap() > 0 {
			begin := v.Pointer()
			l = append(l, span{begin, begin + uintptr(v.Cap())*v.Type().Elem().Size(), v.Slice(0, v.Cap())})
		}
		for i := range v.Len() {
			l = append(l, spans(v.Index(i))...)
		}
	}
	return l
}

func spansOf(x any) []span { return spans(reflect.ValueOf(x)) }

// spoil writes over lists, spare room too.
func spoil(l []span) {
	for _, s := range l {
		for i := range s.all.Len() {
			s.all.Index(i).SetZero()
		}
	}
}

// apart tells whether no two of these lists share memory, nor one of them and one of the others.
func apart(l, others []span) bool {
	slices.SortFunc(l, func(a, b span) int { return int(a.begin) - int(b.begin) })
	for i := range len(l) - 1 {
		if l[i].end > l[i+1].begin {
			return false
		}
	}
	for _, s := range others {
		if slices.ContainsFunc(l, func(x span) bool { return s.begin < x.end && x.begin < s.end }) {
			return false
		}
	}
	return true
}

// answered is what all calls answer of two errors: those that hand out lists, and the rest.
func answered(e, other api.Err) (lists, rest []any) {
	asked := func(x api.Err, ok bool) api.Err {
		rest = append(rest, ok)
		return x
	}
	for kind := range api.NumEk {
		lists = append(lists, asked(As(e, kind)))
	}
	for face := range api.NumEf {
		lists = append(lists, asked(AsFace(e, face)))
	}
	lists = append(lists, Unwrap(e), Walk(e), Join([]api.Err{e, other, e}, 4), Join([]api.Err{other}, 4), Result(e))
	text, fault := Text(e)
	is, broken := Is(e, other)
	equal, bad := Equal(e, other)
	return lists, append(rest, text, fault, is, broken, equal, bad, Valid(e), Same(e, other))
}

// sameAnswers does not tell a list that is nil from one that is empty.
func sameAnswers(a, b []any) bool {
	return slices.EqualFunc(a, b, func(x, y any) bool {
		switch x := x.(type) {
		case api.Err:
			return Same(x, y.(api.Err))
		case [][]int:
			return slices.EqualFunc(x, y.([][]int), slices.Equal)
		case api.Result:
			return sameResult(x, y.(api.Result))
		}
		return x == y
	})
}

// 0.3, 0.4, 0.8: what is handed in stays as it is, spare room too, which plays no part, and is not kept; what is handed out is new memory, of which no two lists share any, and does not hang on what becomes of either.
func TestMemory(t *testing.T) {
	r := newRandom(10)
	for range 1500 {
		e, other := some(t, r), some(t, r)
		lists, rest := answered(e, other)
		in, also := roomyOf(e), roomyOf(other)
		got, gotRest := answered(in, also)
		if !sameAnswers(got, lists) || !sameAnswers(gotRest, rest) {
			t.Fatalf("%s, %s: spare room plays a part", show(e), show(other))
		}
		if !reflect.DeepEqual(whole(in), whole(roomyOf(e))) || !reflect.DeepEqual(whole(also), whole(roomyOf(other))) {
			t.Fatalf("%s, %s: changed", show(e), show(other))
		}
		var all []span
		for _, x := range got {
			all = append(all, spansOf(x)...)
		}
		handed := append(spansOf(in), spansOf(also)...)
		if !apart(all, handed) {
			t.Fatalf("%s, %s: lists share memory", show(e), show(other))
		}
		spoil(handed)
		if !sameAnswers(got, lists) {
			t.Fatalf("%s, %s: what was told changed with what was handed in", show(e), show(other))
		}
		spoil(all)
		if again, againRest := answered(e, other); !sameAnswers(again, lists) || !sameAnswers(againRest, rest) {
			t.Fatalf("%s, %s: another answer", show(e), show(other))
		}
	}
}

// whole is all that a value's lists have room for.
func whole(x any) (l []any) {
	for _, s := range spansOf(x) {
		l = append(l, s.all.Interface())
	}
	return l
}

// 0.4: a list that stands in one error several times is handed out as several.
func TestSharedLists(t *testing.T) {
	l, body := list(1, 2), hold(t, "[1, [2]]")
	e := many(1, l, l, w, w, body, body)
	for _, x := range []any{Join([]api.Err{e, e, l}, 2), Unwrap(wrap(1, "", e)), foundOf(As(e, api.EkMany))} {
		if !apart(spansOf(x), spansOf(e)) {
			t.Errorf("%+v", x)
		}
	}
}

func foundOf(e api.Err, _ bool) api.Err { return e }

// 0.5: beside a false stands EkNil, beside an error false or no text.
func TestBeside(t *testing.T) {
	r := newRandom(11)
	for range 3000 {
		e, other := some(t, r), some(t, r)
		for n := -1; n <= api.NumEk; n++ {
			if x, ok := As(e, n); !ok && !reflect.DeepEqual(x, api.Err{}) {
				t.Fatal(show(x))
			}
			if x, ok := AsFace(e, n); !ok && !reflect.DeepEqual(x, api.Err{}) {
				t.Fatal(show(x))
			}
		}
		if is, fault := Is(e, other); is && fault != api.OK {
			t.Fatal(show(e), show(other))
		}
		if s, fault := Text(e); s != "" && fault != api.OK {
			t.Fatal(show(e))
		}
	}
}

// 0.6: what is handed out is valid, so that no field stands there to which the chapter gives no meaning.
func TestHandedOutValid(t *testing.T) {
	r := newRandom(12)
	for range 3000 {
		e := some(t, r)
		fit(t, Unwrap(e))
		for n := range api.NumEk {
			x, _ := As(e, n)
			fit(t, x)
			x, _ = AsFace(e, n)
			fit(t, x)
		}
	}
}

// 0.3: many at a time ask of the same errors.
func TestManyAtATime(t *testing.T) {
	r := newRandom(13)
	e, other := randomErr(t, r, 6), randomErr(t, r, 6)
	lists, rest := answered(e, other)
	var all sync.WaitGroup
	for range 8 {
		all.Go(func() {
			for range 50 {
				if l, also := answered(e, other); !sameAnswers(l, lists) || !sameAnswers(also, rest) {
					t.Error("another answer")
				}
			}
		})
	}
	all.Wait()
}

// builder makes an error of bytes, each byte a choice.
type builder struct{ rest []byte }

func (b *builder) next(n int) int {
	if len(b.rest) == 0 {
		return 0
	}
	c := int(b.rest[0])
	b.rest = b.rest[1:]
	return c % n
}

func (b *builder) err(t testing.TB, deep int) api.Err {
	e := api.Err{Kind: b.next(api.NumEk)}
	if deep == 0 && (e.Kind == api.EkWrap || e.Kind == api.EkMany) {
		e.Kind = api.EkPtr
	}
	has := fields[e.Kind]
	if has&hasId != 0 {
		e.Id = int64(1 + b.next(3))
	}
	if has&hasCode != 0 {
		e.Code = int64(1 + b.next(3))
	}
	if has&hasText != 0 {
		e.Text = strings.Repeat("x", b.next(3))
	}
	if has&hasBody != 0 {
		e.Body = read(t, bodies[b.next(len(bodies))])
	}
	if has&hasCodes != 0 {
		for range b.next(3) {
			e.Codes = append(e.Codes, int64(b.next(4)))
		}
	}
	return b.filled(t, e, deep)
}

// filled is e with what it wraps.
func (b *builder) filled(t testing.TB, e api.Err, deep int) api.Err {
	n := 0
	switch {
	case e.Kind == api.EkWrap:
		n = 1
	case e.Kind == api.EkMany:
		n = b.next(4)
	case e.Kind == api.EkLike && deep > 0:
		n = b.next(2)
	}
	for range n {
		part := b.err(t, deep-1)
		if part.Kind == api.EkNil && e.Kind != api.EkMany {
			part = null()
		}
		e.List = append(e.List, part)
	}
	return e
}

// FuzzErrs looks for errors of which something else is told than the chapter says.
func FuzzErrs(f *testing.F) {
	r := newRandom(14)
	for range 50 {
		b := make([]byte, r.IntN(60))
		for i := range b {
			b[i] = byte(r.IntN(256))
		}
		f.Add(b)
	}
	f.Fuzz(func(t *testing.T, choices []byte) {
		b := builder{choices}
		e, other := fit(t, b.err(t, 5)), fit(t, b.err(t, 5))
		asSaid(t, e)
		twoAsSaid(t, e, other)
		l := []api.Err{e, other, none}
		if x := Join(l, 9); !Same(x, chapterJoin(l, 9)) {
			t.Fatal(show(x))
		}
	})
}
