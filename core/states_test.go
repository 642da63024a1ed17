package core

import (
	"math"
	"slices"
	"strings"
	"testing"

	"conduit/api"
	"conduit/datum"
)

// nested is the text of lists in lists, so many deep.
func nested(deep int) string { return strings.Repeat("[", deep) + strings.Repeat("]", deep) }

// boxed is the text of a key that is so many deep.
func boxed(deep int) string {
	return strings.Repeat("&1(", deep-1) + "nil" + strings.Repeat(")", deep-1)
}

func fitAsSaid(t testing.TB, st api.CoreState) bool {
	t.Helper()
	got := Fit(st)
	if got != chapterFit(st) {
		t.Fatalf("Fit(%.1000v): %v", st, got)
	}
	return got
}

// P10.3: numbers at their ends.
func TestFitNumbers(t *testing.T) {
	for n, is := range map[int64]bool{0: true, 1: true, top - 1: true, top: true, top + 1: false, -1: false, math.MaxInt64: false, math.MinInt64: false} {
		if fitAsSaid(t, api.CoreState{Count: n}) != is || fitAsSaid(t, api.CoreState{Acked: n}) != is {
			t.Error(n)
		}
	}
	for n, is := range map[int64]bool{0: true, 1: true, 1 << 40: true, 1<<40 + 1: false, -1: false, math.MaxInt64: false, math.MinInt64: false} {
		if fitAsSaid(t, api.CoreState{Until: n}) != is {
			t.Error(n)
		}
	}
	if !fitAsSaid(t, api.CoreState{}) || !fitAsSaid(t, api.CoreState{Closed: true, List: []api.Datum{}}) {
		t.Error("at first")
	}
}

// wrongValues are some that are not valid.
func wrongValues(t testing.TB) []api.Datum {
	in := api.Datum{Kind: api.KList, List: make([]api.Datum, 1)}
	in.List[0] = in
	return []api.Datum{
		{Kind: -1}, {Kind: api.NumKinds}, {Kind: math.MinInt}, {Kind: math.MaxInt}, {Kind: api.KBool, Int: 2}, {Kind: api.KBool, Int: -1}, {Kind: api.KInt, Text: "a"}, {Int: 1}, {Bits: 1}, {Text: "x"}, {List: make([]api.Datum, 1)},
		{Kind: api.KPair}, {Kind: api.KPair, List: make([]api.Datum, 1)}, {Kind: api.KPair, List: make([]api.Datum, 3)}, {Kind: api.KPtr, Int: 1}, {Kind: api.KPtr, List: make([]api.Datum, 1)},
		{Kind: api.KText, Text: strings.Repeat("a", api.MaxBytes+1)}, {Kind: api.KList, List: readAll(t, nested(16))}, {Kind: api.KPtr, Int: 1, List: readAll(t, boxed(16))}, {Kind: api.KList, List: make([]api.Datum, api.MaxItems)}, in,
	}
}

// P10.3: Last is any valid value.
func TestFitLast(t *testing.T) {
	for _, s := range append(slices.Clone(leafTexts), ofEach...) {
		if !fitAsSaid(t, api.CoreState{Last: read(t, s)}) {
			t.Error(s)
		}
	}
	if !fitAsSaid(t, api.CoreState{Last: read(t, nested(16))}) || !fitAsSaid(t, api.CoreState{Last: api.Datum{Kind: api.KList, List: make([]api.Datum, api.MaxItems-1)}}) {
		t.Error("great ones")
	}
	for _, d := range wrongValues(t) {
		if fitAsSaid(t, api.CoreState{Last: d}) {
			t.Errorf("%.100v", d)
		}
	}
}

// P10.3: List is keys, no two of them the same.
func TestFitList(t *testing.T) {
	for _, l := range [][]string{
		{"1"}, {"1", "#1", "2"}, {"f7ff8000000000001", "f7ff8000000000001"}, {"(1, f7ff8000000000001)", "(1, f7ff8000000000001)"}, {`"a"`, `@"a"`}, {"nil", "&nil", "{}"}, {"&1([2])", "&2([2])"}, {"(1, 2)", "(2, 1)"}, {boxed(16)}, {`!1""`, `!1"e"`, `!2""`}, leafTexts[:12],
	} {
		if !fitAsSaid(t, api.CoreState{List: readAll(t, l...)}) {
			t.Error(l)
		}
	}
	for _, l := range [][]string{
		{"1", "1"}, {"1", "2", "3", "1"}, {"f0000000000000000", "f8000000000000000"}, {"&1(2)", "&1(3)"}, {"nil", "nil"}, {"&nil", "{}", "&nil"}, {"(1, &1([]))", "(1, &1(5))"}, {"%"}, {"[]"}, {"1", "([], 1)"}, {"(1, (2, %00))", "5"}, {"[]", "[]"}, {`"a"`, "0", `"a"`},
	} {
		if fitAsSaid(t, api.CoreState{List: readAll(t, l...)}) {
			t.Error(l)
		}
	}
	for _, d := range wrongValues(t) {
		if fitAsSaid(t, api.CoreState{List: []api.Datum{number(1), d}}) || fitAsSaid(t, api.CoreState{List: []api.Datum{d, number(1)}}) {
			t.Errorf("%.100v", d)
		}
	}
	var st api.CoreState
	for i := range 6000 {
		st.List = append(st.List, number(int64(i)))
	}
	if !Fit(st) {
		t.Error("of many")
	}
	if st.List = append(st.List, number(0)); Fit(st) {
		t.Error("of many, one twice")
	}
}

// P10.3: any states.
func TestFitRandom(t *testing.T) {
	r := newRandom(3)
	fit := 0
	for range 20000 {
		st := randomState(r)
		if !fitAsSaid(t, st) {
			t.Fatalf("%v is not fit", st)
		}
		if r.IntN(2) == 0 {
			st.List = append(st.List, randomValue(r, 3))
		}
		if r.IntN(8) == 0 {
			st.Last.Int++
		}
		if fitAsSaid(t, st) {
			fit++
		}
	}
	if fit < 2000 || fit > 18000 {
		t.Error(fit)
	}
}

func savedAsSaid(t testing.TB, st api.CoreState) bool {
	t.Helper()
	got, ok := Save(st)
	want, is := chapterSave(st)
	if ok != is || !datum.Same(got, want) {
		t.Fatalf("Save(%.1000v): %.1000v %v", st, got, ok)
	}
	if !ok {
		return false
	}
	if back, ok := Load(got); !ok || !sameState(back, st) {
		t.Fatalf("Load(Save(%.1000v)): %.1000v %v", st, back, ok)
	}
	return true
}

// P10.4: how a state is saved.
func TestSave(t *testing.T) {
	if d, ok := Save(api.CoreState{}); !ok || datum.Print(d) != "([0, 0, 0, false], (nil, []))" {
		t.Error(datum.Print(d), ok)
	}
	st := api.CoreState{Count: 1, Acked: 2, Until: 3, Closed: true, Last: read(t, `[4, "x"]`), List: readAll(t, "5", "(6, &7([8]))")}
	if d, ok := Save(st); !ok || datum.Print(d) != `([1, 2, 3, true], ([4, "x"], [5, (6, &7([8]))]))` {
		t.Error(datum.Print(d), ok)
	}
}

// P10.4: what is too deep, or has too many parts, is not saved.
func TestSaveEdges(t *testing.T) {
	for deep := 1; deep <= 16; deep++ {
		if savedAsSaid(t, api.CoreState{Last: read(t, nested(deep))}) != (deep <= 14) {
			t.Error("Last", deep)
		}
		if savedAsSaid(t, api.CoreState{List: readAll(t, boxed(deep))}) != (deep <= 13) {
			t.Error("List", deep)
		}
	}
	for n := 4080; n <= 4095; n++ {
		if savedAsSaid(t, api.CoreState{Last: api.Datum{Kind: api.KList, List: make([]api.Datum, n)}}) != (n <= 4087) {
			t.Error("Last", n)
		}
		var l []api.Datum
		for i := range n {
			l = append(l, number(int64(i)))
		}
		if savedAsSaid(t, api.CoreState{List: l}) != (n <= 4087) {
			t.Error("List", n)
		}
	}
}

// P10.4: what is no state is not loaded.
func TestNotLoaded(t *testing.T) {
	for _, s := range append([]string{
		"([1, 2, 3], (nil, []))", "([1, 2, 3, true, 4], (nil, []))", "([1, 2, 3, 1], (nil, []))", "([true, 2, 3, true], (nil, []))", "([1, true, 3, true], (nil, []))", "([1, 2, #3, true], (nil, []))", "([1, 2, nil, true], (nil, []))",
		"([1, 2, 3, true], [nil, []])", "[[1, 2, 3, true], (nil, [])]", "((1, 2), (nil, []))", "([1, 2, 3, true], (nil, (1, 2)))", "([1, 2, 3, true], (nil, nil))", "([1, 2, 3, true], (nil, &1([])))", "([1, 2, 3, true], nil)", "(nil, (nil, []))", "([], (nil, []))",
		"([-1, 2, 3, true], (nil, []))", "([1, -1, 3, true], (nil, []))", "([1, 2, -1, true], (nil, []))", "([4611686018427387905, 2, 3, true], (nil, []))", "([1, 4611686018427387905, 3, true], (nil, []))", "([1, 2, 1099511627777, true], (nil, []))",
		"([1, 2, 3, true], (nil, [1, 1]))", "([1, 2, 3, true], (nil, [[]]))", "([1, 2, 3, true], (nil, [(1, %)]))", "([1, 2, 3, true], (nil, [&1(1), &1(2)]))", "&1(([1, 2, 3, true], (nil, [])))", "[([1, 2, 3, true], (nil, []))]", "((nil, []), [1, 2, 3, true])",
	}, ofEach...) {
		if st, ok := Load(read(t, s)); ok || !sameState(st, api.CoreState{}) {
			t.Errorf("%s: %v %v", s, st, ok)
		}
	}
	for _, d := range wrongValues(t) {
		numbers, none := read(t, "[1, 2, 3, true]"), read(t, "[]")
		two := func(a, b api.Datum) api.Datum { return api.Datum{Kind: api.KPair, List: []api.Datum{a, b}} }
		one := api.Datum{Kind: api.KList, List: []api.Datum{d}}
		for _, d := range []api.Datum{d, two(numbers, d), two(d, two(number(1), none)), two(numbers, two(d, none)), two(numbers, two(number(1), d)), two(numbers, two(number(1), one))} {
			if st, ok := Load(d); ok || !sameState(st, api.CoreState{}) {
				t.Errorf("%.100v: %v %v", d, st, ok)
			}
		}
	}
	stray := read(t, "([1, 2, 3, true], (nil, []))")
	stray.List[0].List[0].Text = "x"
	if st, ok := Load(stray); ok || !sameState(st, api.CoreState{}) {
		t.Error(st, ok)
	}
}

// P10.4: what is loaded.
func TestLoaded(t *testing.T) {
	for s, want := range map[string]api.CoreState{
		"([0, 0, 0, false], (nil, []))": {},
		"([4611686018427387904, 4611686018427387904, 1099511627776, true], (f7ff8000000000001, []))": {Count: top, Acked: top, Until: 1 << 40, Closed: true, Last: read(t, "f7ff8000000000001")},
		`([1, 2, 3, false], ([%00], [1, #1, f7ff8000000000001, f7ff8000000000001, &1([])]))`:         {Count: 1, Acked: 2, Until: 3, Last: read(t, "[%00]"), List: readAll(t, "1", "#1", "f7ff8000000000001", "f7ff8000000000001", "&1([])")},
	} {
		if st, ok := Load(read(t, s)); !ok || !sameState(st, want) {
			t.Errorf("%s: %v %v", s, st, ok)
		}
	}
}

// P10.4: Load of what is like what was saved.
func TestLoadAsSaid(t *testing.T) {
	r := newRandom(4)
	loaded := 0
	for range 20000 {
		d, ok := Save(randomState(r))
		if !ok {
			t.Fatal("not saved")
		}
		part := &d
		for len(part.List) > 0 && r.IntN(5) > 0 {
			part = &part.List[r.IntN(len(part.List))]
		}
		*part = randomValue(r, 2)
		want, is := chapterLoad(d)
		st, ok := Load(d)
		if ok != is || !sameState(st, want) {
			t.Fatalf("%s: %v %v", datum.Print(d), st, ok)
		}
		if ok {
			loaded++
		}
	}
	if loaded < 1000 || loaded > 19000 {
		t.Error(loaded)
	}
}

// P10.5.
func TestWord(t *testing.T) {
	for op, word := range coreWords[1:] {
		if got := Word(op + 1); got != word || coreOf(t, word).Op != op+1 {
			t.Errorf("%d: %s", op+1, got)
		}
	}
	for _, op := range []int{0, -1, 13, 14, 64, 1 << 32, 1<<32 + 1, math.MaxInt, math.MinInt} {
		if got := Word(op); got != "" {
			t.Errorf("%d: %s", op, got)
		}
	}
}
