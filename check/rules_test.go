package check

import (
	"bytes"
	"maps"
	"reflect"
	"slices"
	"testing"

	"conduit/api"
	"conduit/parse"
	"conduit/scan"
)

// thereAndBack holds a fit plan against P8.7.
func thereAndBack(t testing.TB, p api.Plan) {
	t.Helper()
	s := Write(p)
	if _, f := scan.Scan([]byte(s)); f.Err != api.OK {
		return
	}
	q, f := Load([]byte(s))
	if f != (api.Fault{}) || !Same(p, q) || !exactly(p, q) || Write(q) != s {
		t.Fatalf("%s: %+v %v, not %+v", s, q, f, p)
	}
}

// P8.7: of any fit plan.
func TestThereAndBack(t *testing.T) {
	r := newRandom(4)
	for range 3000 {
		thereAndBack(t, randomPlan(r, 12))
	}
	thereAndBack(t, wholePlan(t))
	thereAndBack(t, api.Plan{})
	for _, n := range []int{8192, 8193} {
		p := loaded(t, "handler a = echo with filter when int;")
		p.Handlers[0].Chain.Wraps[0].Want = op(api.WOr, slices.Repeat([]api.Want{kind(api.KInt)}, n)...)
		if !fitAsSaid(t, p) {
			t.Error(n)
		}
		thereAndBack(t, p)
	}
}

// P8.8: what Check gives is fit, and so are its chains.
func TestGivenIsFit(t *testing.T) {
	for seed, wrong := range []int{0, 60, 300} {
		m := &maker{r: newRandom(uint64(20 + seed)), wrong: wrong}
		for range 1000 {
			tree := m.tree(8)
			p, f := Check(tree)
			if !Fit(p) {
				t.Fatalf("%+v: %+v is not fit", tree, p)
			}
			for _, h := range p.Handlers {
				if !Chain(h.Chain) || f.Err != api.OK {
					t.Fatalf("%+v: %+v is not fit", tree, h)
				}
			}
		}
	}
}

// renamed is a tree with other names of handlers; names of none get others, too.
func renamed(t api.Tree, to map[string]string) api.Tree {
	t = copied(t)
	change := func(u *api.Use) {
		if n, ok := to[u.Name]; ok {
			u.Name = n
		}
	}
	for i := range t.Handlers {
		h := &t.Handlers[i]
		h.Name = to[h.Name]
		change(&h.Of)
		for j := range h.After {
			change(&h.After[j])
		}
	}
	for i := range t.Routes {
		change(&t.Routes[i].To)
	}
	return t
}

// P8.9: names play no part but as names.
func TestNames(t *testing.T) {
	r := newRandom(5)
	for n := range 3000 {
		m := &maker{r: r, wrong: []int{0, 60}[n%2]}
		tree := m.tree(8)
		from := append(names(), "foo")
		others := append(slices.Clone(from), "none", "until", "int", "a1", "Handler", "fail", "mask", "old", "key", "x", "y", "z")
		r.Shuffle(len(others), func(i, j int) { others[i], others[j] = others[j], others[i] })
		to := map[string]string{}
		for i, name := range from {
			to[name] = others[i]
		}
		other := renamed(tree, to)
		p, f := Check(tree)
		q, g := Check(other)
		for i := range p.Handlers {
			p.Handlers[i].Name = to[p.Handlers[i].Name]
		}
		if f != g || !Same(p, q) {
			t.Fatalf("%+v: %v; with other names %v", tree, f, g)
		}
	}
}

// writtenOut is a tree without "of".
func writtenOut(t api.Tree) api.Tree {
	t = copied(t)
	for i := range t.Handlers {
		h := &t.Handlers[i]
		if at := place(t.Handlers[:i], h.Of.Name); at >= 0 {
			h.Of, h.Core = api.Use{}, copied(t.Handlers[at].Core)
			h.Wraps = append(copied(t.Handlers[at].Wraps), h.Wraps...)
		}
	}
	return t
}

// P8.10: "of" says the same as the chain written out.
func TestOfWrittenOut(t *testing.T) {
	m := &maker{r: newRandom(6)}
	ofs := 0
	for range 2000 {
		tree := m.tree(10)
		out := writtenOut(tree)
		if !parse.Fit(out) || slices.ContainsFunc(out.Handlers, func(h api.HandlerDecl) bool { return h.Of.Name != "" }) {
			t.Fatalf("%+v is not written out", out)
		}
		if !parse.Same(tree, out) {
			ofs++
		}
		p, f := Check(tree)
		q, g := Check(out)
		if f.Err != api.OK || g.Err != api.OK || !Same(p, q) {
			t.Fatalf("%+v: %v; written out %v", tree, f, g)
		}
	}
	if ofs < 1000 {
		t.Error(ofs)
	}
}

// 0.3: the same again, whatever was asked in between.
func TestSameAgain(t *testing.T) {
	m := &maker{r: newRandom(7), wrong: 60}
	type answer struct {
		tree api.Tree
		p    api.Plan
		f    api.Fault
		s    string
	}
	var first []answer
	for range 500 {
		tree := m.tree(6)
		p, f := Check(tree)
		first = append(first, answer{tree, p, f, Write(p)})
	}
	slices.Reverse(first)
	for _, x := range first {
		if p, f := Check(x.tree); f != x.f || !exactly(p, x.p) || Write(p) != x.s {
			t.Fatalf("%+v: %v, then %v", x.tree, x.f, f)
		}
	}
}

// 0.4: what is handed in stays as it is, and no answer changes with it.
func TestHandedIn(t *testing.T) {
	m := &maker{r: newRandom(8)}
	for range 500 {
		tree := m.tree(5)
		was := copied(tree)
		p, _ := Check(tree)
		kept := copied(p)
		s := Write(p)
		if Chain(api.Chain{}) || !Fit(p) || !Same(p, kept) || !exactly(p, kept) || !exactly(tree, was) {
			t.Fatalf("%+v became %+v", was, tree)
		}
		spoil(reflect.ValueOf(&tree).Elem())
		if !exactly(p, kept) {
			t.Fatalf("%+v: the plan changed with the tree", was)
		}
		src := []byte(s + " x @")
		q, f := Load(src[:len(s)])
		if f.Err != api.OK || string(src) != s+" x @" {
			t.Fatalf("%s: %v", s, f)
		}
		copy(src, bytes.Repeat([]byte{'#'}, len(src)))
		if !exactly(q, kept) {
			t.Fatalf("%s: the plan changed with the text", s)
		}
	}
}

// spoil puts something else into all that a value has, lists' elements too, without copying them.
func spoil(v reflect.Value) {
	switch v.Kind() {
	case reflect.Struct:
		for i := range v.NumField() {
			spoil(v.Field(i))
		}
	case reflect.Slice:
		for i := range v.Len() {
			spoil(v.Index(i))
		}
	case reflect.String:
		v.SetString("spoilt")
	case reflect.Bool:
		v.SetBool(!v.Bool())
	case reflect.Int, reflect.Int64:
		v.SetInt(v.Int() + 77)
	default:
		v.SetUint(v.Uint() + 77)
	}
}

// lists is all lists of an answer, by where their memory begins and how much of it there is, spare room too.
func lists(v reflect.Value, found map[uintptr]uintptr) {
	switch v.Kind() {
	case reflect.Struct:
		for i := range v.NumField() {
			lists(v.Field(i), found)
		}
	case reflect.Slice:
		if v.Cap() > 0 {
			found[v.Pointer()] += uintptr(v.Cap()) * v.Type().Elem().Size()
		}
		for i := range v.Len() {
			lists(v.Index(i), found)
		}
	}
}

// 0.4: no two lists of one answer share memory, nor those of two answers, nor an answer and what was handed in.
func TestListsAreApart(t *testing.T) {
	w := op(api.WOr, op(api.WAnd, kind(1), kind(2)), op(api.WNot, kind(3)))
	w.List = append(w.List, w.List[0])
	filter := api.WrapDecl{Word: "filter", When: true, Want: w}
	wraps := []api.WrapDecl{filter, filter}
	after := []api.Use{{Name: "a"}, {Name: "b"}}
	tree := api.Tree{Handlers: []api.HandlerDecl{
		{Name: "a", Core: api.CoreDecl{Word: "echo"}, Wraps: wraps, After: after},
		{Name: "b", Of: api.Use{Name: "a"}, Wraps: wraps, After: after},
		{Name: "c", Of: api.Use{Name: "b"}, After: after},
		{Name: "d", Of: api.Use{Name: "b"}, Wraps: wraps[:1]},
	}, Routes: []api.RouteDecl{
		{Filter: api.Use{Name: "x"}, When: true, Want: w, To: api.Use{Name: "a"}},
		{Filter: api.Use{Name: "x"}, When: true, Want: w, To: api.Use{Name: "a"}},
	}}
	found := map[uintptr]uintptr{}
	for range 2 {
		p, f := Check(tree)
		if f.Err != api.OK || !Fit(p) {
			t.Fatal(f)
		}
		lists(reflect.ValueOf(p), found)
	}
	had := map[uintptr]uintptr{}
	lists(reflect.ValueOf(tree), had)
	for at, size := range had {
		if found[at] != 0 {
			t.Error("a list that was handed in is handed out")
		}
		// Of what was handed in, some lists stand there more than once.
		found[at] = min(size, 1)
	}
	begins := slices.Sorted(maps.Keys(found))
	for i, at := range begins[1:] {
		if begins[i]+found[begins[i]] > at {
			t.Error("two lists share memory")
		}
	}
	if len(begins) < 100 {
		t.Error(len(begins))
	}
}

// A panic that is no fault of a tree goes on.
func TestOtherPanicsGoOn(t *testing.T) {
	for _, p := range []any{"other", 7, &api.Fault{}, api.ErrRange} {
		func() {
			defer func() {
				if got := recover(); got != p {
					t.Errorf("%v, not %v", got, p)
				}
			}()
			_, f := caught(func() api.Plan { panic(p) })
			t.Errorf("%v: %v", p, f)
		}()
	}
}

// FuzzLoad looks for texts of which the plan, the fault or what follows is not as the chapter has it.
func FuzzLoad(f *testing.F) {
	f.Add(example)
	m := &maker{r: newRandom(9), wrong: 40}
	for range 60 {
		f.Add(parse.Print(m.tree(4)))
	}
	for _, word := range []string{"caps", "inbox 3 drop", "after", "with open", "when"} {
		f.Add("handler a = store " + word + " a;")
	}
	f.Fuzz(func(t *testing.T, s string) {
		tree, fault := parse.Parse([]byte(s))
		var want api.Plan
		if fault.Err == api.OK {
			want, fault = chapterCheck(tree)
		}
		p, got := Load([]byte(s))
		if got != fault || !exactly(p, want) {
			t.Fatalf("%q: %+v %v, not %v", s, p, got, fault)
		}
		if !fitAsSaid(t, p) {
			t.Fatalf("%q: %+v is not fit", s, p)
		}
		thereAndBack(t, p)
	})
}
