package shape

import (
	"slices"
	"testing"
	"unsafe"

	"conduit/api"
	"conduit/datum"
)

// roomy is a value whose lists, those without places too, stand in memory with spare room on both sides.
func roomy(d api.Datum) api.Datum {
	out := make([]api.Datum, len(d.List)+3)
	for i := range out {
		out[i] = api.Datum{Kind: api.KText, Text: "spare"}
	}
	for i, part := range d.List {
		out[i+1] = roomy(part)
	}
	d.List = out[1 : len(d.List)+1]
	return d
}

// spoil puts something else into all lists, spare room too.
func spoil(l []api.Datum) {
	for i := range l {
		spoil(l[i].List)
	}
	for i := range l[:cap(l)] {
		l[:cap(l)][i] = api.Datum{Kind: api.KName, Text: "spoilt"}
	}
}

// spared tells whether what lies behind the places of roomy lists is as it was.
func spared(l []api.Datum) bool {
	for _, d := range l {
		if !spared(d.List) {
			return false
		}
	}
	return !slices.ContainsFunc(l[len(l):cap(l)], func(d api.Datum) bool { return d.Text != "spare" })
}

// roomyOps is a row of maps with another one behind it.
func roomyOps(ops []int) []int { return append(slices.Clip(slices.Clone(ops)), 77)[:len(ops)] }

// handIn maps a roomy value, and tells whether what was handed in stayed as it was.
func handIn(t *testing.T, ops []int, d api.Datum, do func(ops []int, d api.Datum) api.Result) {
	t.Helper()
	inOps, in := roomyOps(ops), roomy(d)
	got := do(inOps, in)
	if !datum.Same(in, d) || !spared(in.List) || !slices.Equal(inOps, ops) || inOps[:len(ops)+1][len(ops)] != 77 {
		t.Fatalf("%v of %s: changed", ops, datum.Print(d))
	}
	was := got
	was.Body = copied(got.Body)
	spoil(in.List)
	clear(inOps)
	if !sameResult(got, was) {
		t.Fatalf("%v of %s: what was answered changed with what was handed in", ops, datum.Print(d))
	}
	spoil(got.Body.List)
	if again := do(ops, d); !sameResult(again, was) {
		t.Fatalf("%v of %s: the same, done again, comes to something else", ops, datum.Print(d))
	}
}

// 0.3, 0.4, 0.8: what is handed in stays as it is, spare room too, and is not kept; what was answered does not hang on it, nor another answer on that.
func TestHandedIn(t *testing.T) {
	r := newRandom(9)
	maps := func(ops []int, d api.Datum) api.Result { return Maps(ops, "t", d) }
	for range 20000 {
		handIn(t, randomOps(r), randomValue(r, 5), maps)
	}
	one := func(ops []int, d api.Datum) api.Result { return Map(ops[0], "t", d) }
	for op := range api.NumMaps {
		for _, d := range values() {
			handIn(t, []int{op}, d, one)
			handIn(t, []int{op}, d, maps)
		}
	}
}

// 0.4: a pattern that is handed in stays as it is.
func TestPatternHandedIn(t *testing.T) {
	spare := api.Want{Op: api.WFace, Num: 77}
	l := []api.Want{{Op: api.WAny}, {Op: api.WKind, Num: api.KInt}, spare}
	w := api.Want{Op: api.WAnd, List: l[:2]}
	if !Pass(w, number(5)) || Pass(w, text("a")) {
		t.Error("a filter of ints")
	}
	if l[0].Op != api.WAny || l[1].Op != api.WKind || l[1].Num != api.KInt || l[2].Num != spare.Num {
		t.Errorf("%+v", l)
	}
}

type memory struct{ begin, end uintptr }

// memories is where lists lie, spare room too.
func memories(l []api.Datum) []memory {
	if cap(l) == 0 {
		return nil
	}
	begin := uintptr(unsafe.Pointer(unsafe.SliceData(l)))
	out := []memory{{begin, begin + uintptr(cap(l))*unsafe.Sizeof(api.Datum{})}}
	for _, d := range l {
		out = append(out, memories(d.List)...)
	}
	return out
}

func apart(t *testing.T, l []memory) {
	t.Helper()
	slices.SortFunc(l, func(a, b memory) int { return int(a.begin) - int(b.begin) })
	for i := range len(l) - 1 {
		if l[i].end > l[i+1].begin {
			t.Fatal("two lists share memory")
		}
	}
}

// 0.4: no two lists of one answer share memory, nor do they with what was handed in.
func TestListsAreApart(t *testing.T) {
	r := newRandom(10)
	for range 20000 {
		d := roomy(randomValue(r, 5))
		apart(t, append(memories(d.List), memories(Maps(randomOps(r), "t", d).Body.List)...))
		apart(t, append(memories(d.List), memories(Map(1+r.IntN(api.NumMaps-1), "t", d).Body.List)...))
	}
}

// 0.4: lists that share memory in what was handed in do not so in what comes.
func TestSharedWithin(t *testing.T) {
	l := []api.Datum{number(1)}
	one := api.Datum{Kind: api.KList, List: l}
	d := api.Datum{Kind: api.KPair, List: []api.Datum{one, one}}
	for _, op := range []int{api.MapList, api.MapPair, api.MapKey} {
		apart(t, append(memories(asSaid(t, op, "t", d).Body.List), memories(l)...))
	}
	box := api.Datum{Kind: api.KPtr, Int: 1, List: []api.Datum{d}}
	apart(t, append(memories(asSaid(t, api.MapOpen, "t", box).Body.List), memories(l)...))
	apart(t, append(memories(Maps(nil, "t", d).Body.List), memories(l)...))
}

// 0.1: no number of a map and no set of kinds makes a call panic.
func TestNeverPanics(t *testing.T) {
	for _, op := range anyOps() {
		for bit := range 32 {
			Kinds(op, 1<<bit)
		}
		for _, d := range values() {
			Map(op, "", d)
			Maps([]int{op, op, op}, "", d)
		}
	}
}

// rowOf makes a value and a row of maps of any bytes.
func rowOf(b []byte) (ops []int, d api.Datum) {
	next := func() int {
		if len(b) == 0 {
			return 0
		}
		n := int(b[0])
		b = b[1:]
		return n
	}
	var value func(deep int) api.Datum
	value = func(deep int) api.Datum {
		n := next()
		l := values()
		if n < 150 || deep == 0 {
			return copied(l[n%len(l)])
		}
		d := api.Datum{Kind: []int{api.KList, api.KPair, api.KPtr}[n%3]}
		for range []int{next() % 4, 2, 1}[n%3] {
			d.List = append(d.List, value(deep-1))
		}
		if d.Kind == api.KPtr {
			d.Int = int64(1 + n%2)
		}
		return d
	}
	d = value(5)
	for len(b) > 0 && len(ops) < 40 {
		ops = append(ops, next()%11-1)
	}
	return ops, d
}

// FuzzMaps looks for rows of maps of which something else comes than the chapter says.
func FuzzMaps(f *testing.F) {
	f.Add("t", []byte{152, 4, 4, 2})
	r := newRandom(11)
	for range 40 {
		b := make([]byte, 20)
		for i := range b {
			b[i] = byte(r.IntN(256))
		}
		f.Add("a/b", b)
	}
	f.Fuzz(func(t *testing.T, topic string, b []byte) {
		ops, d := rowOf(b)
		for i, op := range ops {
			asSaid(t, op, topic, d)
			if got := mapsAsSaid(t, ops[:i], topic, d); !datum.Valid(got.Body) {
				t.Fatalf("%v of %s: no value", ops[:i], datum.Print(d))
			}
		}
		mapsAsSaid(t, ops, topic, d)
	})
}
