package core

import (
	"slices"
	"testing"
	"unsafe"

	"conduit/api"
	"conduit/datum"
)

// roomy is a value whose lists, those without places too, stand in memory with spare room on both sides.
func roomy(d api.Datum) api.Datum {
	d.List = roomyList(d.List)
	return d
}

func roomyList(l []api.Datum) []api.Datum {
	out := make([]api.Datum, len(l)+3)
	for i := range out {
		out[i] = api.Datum{Kind: api.KText, Text: "spare"}
	}
	for i, d := range l {
		out[i+1] = roomy(d)
	}
	return out[1 : len(l)+1]
}

func roomyState(st api.CoreState) api.CoreState {
	st.Last, st.List = roomy(st.Last), roomyList(st.List)
	return st
}

// spoil puts something else into all lists, spare room too.
func spoil(l []api.Datum) {
	for i := range l {
		spoil(l[i].List)
	}
	for i := range l[:cap(l)] {
		l[:cap(l)][i] = api.Datum{Kind: api.KName, Text: "spoilt"}
	}
}

// spared tells whether what lies behind the places of roomy lists is as it was.
func spared(l []api.Datum) bool {
	for _, d := range l {
		if !spared(d.List) {
			return false
		}
	}
	return len(l) == cap(l) || !slices.ContainsFunc(l[len(l):cap(l)], func(d api.Datum) bool { return d.Text != "spare" })
}

// 0.3, 0.4, 0.8: what is handed in stays as it is, spare room too, and is not kept; what was answered does not hang on it, nor another answer on that.
func TestHandedIn(t *testing.T) {
	r := newRandom(9)
	for range 20000 {
		c := randomCall(r, randomCore(r), randomState(r))
		in := c
		in.st, in.arg = roomyState(c.st), roomy(c.arg)
		st, result := in.done()
		if !sameState(in.st, c.st) || !datum.Same(in.arg, c.arg) || !spared(in.st.List) || !spared(in.st.Last.List) || !spared(in.arg.List) {
			t.Fatalf("%v became %v", c, in)
		}
		was, answer := copied(st), result
		answer.Body = copiedValue(result.Body)
		spoil(in.st.List)
		spoil(in.st.Last.List)
		spoil(in.arg.List)
		if !sameState(st, was) || !sameResult(result, answer) {
			t.Fatalf("%v: what was answered changed with what was handed in", c)
		}
		spoil(st.List)
		spoil(st.Last.List)
		spoil(result.Body.List)
		st, result = c.done()
		if !sameState(st, was) || !sameResult(result, answer) {
			t.Fatalf("%v: %v %s, then %v %s", c, was, show(answer), st, show(result))
		}
	}
}

type memory struct{ begin, end uintptr }

// memories is where lists lie, spare room too.
func memories(l []api.Datum) []memory {
	if cap(l) == 0 {
		return nil
	}
	begin := uintptr(unsafe.Pointer(unsafe.SliceData(l)))
	out := []memory{{begin, begin + uintptr(cap(l))*unsafe.Sizeof(api.Datum{})}}
	for _, d := range l {
		out = append(out, memories(d.List)...)
	}
	return out
}

func apart(t *testing.T, l []memory) {
	t.Helper()
	slices.SortFunc(l, func(a, b memory) int { return int(a.begin) - int(b.begin) })
	for i := range len(l) - 1 {
		if l[i].end > l[i+1].begin {
			t.Fatal("two lists share memory")
		}
	}
}

// 0.4: no two lists of one answer share memory, nor do they with what was handed in.
func TestListsAreApart(t *testing.T) {
	r := newRandom(10)
	for range 20000 {
		st := randomState(r)
		c := randomCall(r, randomCore(r), roomyState(st))
		c.arg = roomy(c.arg)
		after, result := c.done()
		all := append(memories(c.st.List), memories(c.st.Last.List)...)
		all = append(all, memories(c.arg.List)...)
		all = append(all, memories(after.List)...)
		all = append(all, memories(after.Last.List)...)
		apart(t, append(all, memories(result.Body.List)...))

		d, _ := Save(c.st)
		back, _ := Load(d)
		all = append(memories(c.st.List), memories(c.st.Last.List)...)
		all = append(all, memories(d.List)...)
		all = append(all, memories(back.List)...)
		apart(t, append(all, memories(back.Last.List)...))
	}
}

// 0.4: Fit, Save and Load leave what is handed in, spare room too.
func TestStatesHandedIn(t *testing.T) {
	r := newRandom(11)
	for range 5000 {
		st := randomState(r)
		in := roomyState(st)
		d, ok := Save(in)
		if !ok || !Fit(in) || !sameState(in, st) || !spared(in.List) || !spared(in.Last.List) {
			t.Fatalf("%v became %v", st, in)
		}
		value := roomy(d)
		back, ok := Load(value)
		if !ok || !datum.Same(value, d) || !spared(value.List) || !sameState(back, st) {
			t.Fatalf("%v became %v", d, value)
		}
	}
}

// callsOf makes a fit core and calls of it of any bytes.
func callsOf(b []byte) (api.Core, []call) {
	next := func() int {
		if len(b) == 0 {
			return 0
		}
		n := int(b[0])
		b = b[1:]
		return n
	}
	co := coreWith(1+next()%12, int64(int8(next())), 1023)
	var value func(deep int) api.Datum
	value = func(deep int) api.Datum {
		n := next()
		l := leaves()
		if n < 200 || deep == 0 {
			return copiedValue(l[n%len(l)])
		}
		d := api.Datum{Kind: []int{api.KList, api.KPair, api.KPtr}[n%3]}
		count := []int{next() % 4, 2, 1}[n%3]
		for range count {
			d.List = append(d.List, value(deep-1))
		}
		if d.Kind == api.KPtr {
			d.Int = int64(1 + n%2)
		}
		return d
	}
	var l []call
	for len(b) > 0 && len(l) < 40 {
		c := call{co: co, which: -1, now: int64(next() % 8)}
		if n := next(); n < 128 {
			c.which = n % 11
		}
		c.arg = value(3)
		l = append(l, c)
	}
	return co, l
}

// FuzzCalls looks for rows of calls of which something else comes than the chapter says.
func FuzzCalls(f *testing.F) {
	f.Add([]byte{2, 0, 0, 200, 1, 0, 200, 1, 0, 0, 0})
	f.Add([]byte{3, 5, 0, 200, 2, 0, 200, 3, 1, 1, 4, 1, 2, 255, 3, 1, 2})
	r := newRandom(12)
	for range 40 {
		b := make([]byte, 60)
		for i := range b {
			b[i] = byte(r.IntN(256))
		}
		f.Add(b)
	}
	f.Fuzz(func(t *testing.T, b []byte) {
		co, l := callsOf(b)
		fitCore(t, co)
		var st, saved api.CoreState
		for _, c := range l {
			c.st = st
			if c.which == api.CapLoad && c.now%2 == 0 {
				c.arg, _ = Save(saved)
			}
			saved = st
			st, _ = c.asSaid(t)
			fitAsSaid(t, st)
			savedAsSaid(t, st)
		}
	})
}
