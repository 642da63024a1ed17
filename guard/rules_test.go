package guard

import (
	"slices"
	"testing"
	"unsafe"

	"conduit/api"
	"conduit/datum"
)

// roomy is a value whose lists, those without places too, stand in memory with spare room on both sides.
func roomy(d api.Datum) api.Datum {
	out := make([]api.Datum, len(d.List)+3)
	for i := range out {
		out[i] = api.Datum{Kind: api.KText, Text: "spare"}
	}
	for i, part := range d.List {
		out[i+1] = roomy(part)
	}
	d.List = out[1 : len(d.List)+1]
	return d
}

// roomyRow is acts with spare room in all their lists, and behind them.
func roomyRow(l []api.Act) []api.Act {
	out := make([]api.Act, len(l), len(l)+2)
	for i, a := range l {
		a.A, a.B = roomy(a.A), roomy(a.B)
		out[i] = a
	}
	for i := range out[len(l):cap(out)] {
		out[:cap(out)][len(l)+i] = api.Act{Op: api.ActGive, A: number(77)}
	}
	return out
}

// spoil puts something else into all lists, spare room too.
func spoil(l []api.Datum) {
	for i := range l {
		spoil(l[i].List)
	}
	for i := range l[:cap(l)] {
		l[:cap(l)][i] = api.Datum{Kind: api.KName, Text: "spoilt"}
	}
}

// spared tells whether what lies behind the places of roomy lists is as it was.
func spared(l []api.Datum) bool {
	for _, d := range l {
		if !spared(d.List) {
			return false
		}
	}
	return !slices.ContainsFunc(l[len(l):cap(l)], func(d api.Datum) bool { return d.Text != "spare" })
}

func sameAct(a, b api.Act) bool {
	return a.Op == b.Op && a.N == b.N && datum.Same(a.A, b.A) && datum.Same(a.B, b.B)
}

func copiedResults(l []api.Result) []api.Result {
	l = slices.Clone(l)
	for i := range l {
		l[i].Body = copied(l[i].Body)
	}
	return l
}

// 0.3, 0.4, 0.8: what is handed in stays as it is, spare room too, and is not kept; what was answered does not hang on it, nor another answer on that.
func TestHandedIn(t *testing.T) {
	r := newRandom(4)
	for range 10000 {
		l := randomRow(r)
		in := roomyRow(l)
		results, places := Run(in)
		for i, a := range in {
			if !sameAct(a, l[i]) || !spared(a.A.List) || !spared(a.B.List) {
				t.Fatalf("%s became %s", showAct(l[i]), showAct(a))
			}
		}
		for _, a := range in[len(in):cap(in)] {
			if a.A.Int != 77 {
				t.Fatalf("spare room became %s", showAct(a))
			}
		}
		wereResults, werePlaces := copiedResults(results), slices.Clone(places)
		for _, a := range in {
			spoil(a.A.List)
			spoil(a.B.List)
		}
		clear(in[:cap(in)])
		if !slices.EqualFunc(results, wereResults, sameResult) {
			t.Fatal("what was answered changed with what was handed in")
		}
		for _, one := range results {
			spoil(one.Body.List)
		}
		clear(results[:cap(results)])
		clear(places[:cap(places)])
		results, places = Run(l)
		if !slices.EqualFunc(results, wereResults, sameResult) || !slices.Equal(places, werePlaces) {
			t.Fatal("the same acts, done again, come to something else")
		}
	}
}

type memory struct{ begin, end uintptr }

// memories is where lists lie, spare room too.
func memories(l []api.Datum) []memory {
	if cap(l) == 0 {
		return nil
	}
	begin := uintptr(unsafe.Pointer(unsafe.SliceData(l)))
	out := []memory{{begin, begin + uintptr(cap(l))*unsafe.Sizeof(api.Datum{})}}
	for _, d := range l {
		out = append(out, memories(d.List)...)
	}
	return out
}

func apart(t *testing.T, l []memory) {
	t.Helper()
	slices.SortFunc(l, func(a, b memory) int { return int(a.begin) - int(b.begin) })
	for i := range len(l) - 1 {
		if l[i].end > l[i+1].begin {
			t.Fatal("two lists share memory")
		}
	}
}

// 0.4: no two lists of one answer share memory, nor do they with what was handed in.
func TestListsAreApart(t *testing.T) {
	r := newRandom(5)
	for range 10000 {
		l := roomyRow(randomRow(r))
		var all []memory
		for _, a := range l {
			all = append(all, memories(a.A.List)...)
			all = append(all, memories(a.B.List)...)
		}
		results, _ := Run(l)
		for _, one := range results {
			all = append(all, memories(one.Body.List)...)
		}
		apart(t, all)

		a := roomyRow([]api.Act{randomAct(r)})[0]
		all = append(memories(a.A.List), memories(a.B.List)...)
		apart(t, append(all, memories(Try(a).Body.List)...))
	}
}

// actsOf makes acts of any bytes.
func actsOf(b []byte) []api.Act {
	next := func() int {
		if len(b) == 0 {
			return 0
		}
		n := int(b[0])
		b = b[1:]
		return n
	}
	var value func(deep int) api.Datum
	value = func(deep int) api.Datum {
		n := next()
		l := values()
		if n < 180 || deep == 0 {
			return copied(l[n%len(l)])
		}
		d := api.Datum{Kind: []int{api.KList, api.KPair, api.KPtr}[n%3]}
		for range []int{next() % 4, 2, 1}[n%3] {
			d.List = append(d.List, value(deep-1))
		}
		if d.Kind == api.KPtr {
			d.Int = int64(1 + n%2)
		}
		return d
	}
	var l []api.Act
	for len(b) > 0 && len(l) < 40 {
		l = append(l, api.Act{Op: next() % 13, A: value(3), B: value(3), N: int64(int8(next()))})
	}
	return l
}

// FuzzRun looks for rows of acts of which something else comes than the chapter says.
func FuzzRun(f *testing.F) {
	f.Add([]byte{1, 2, 0, 0, 6, 180, 2, 3, 4, 180, 2, 3, 4, 0})
	r := newRandom(6)
	for range 40 {
		b := make([]byte, 60)
		for i := range b {
			b[i] = byte(r.IntN(256))
		}
		f.Add(b)
	}
	f.Fuzz(func(t *testing.T, b []byte) {
		l := actsOf(b)
		for _, a := range l {
			asSaid(t, a)
		}
		runAsSaid(t, l)
	})
}
