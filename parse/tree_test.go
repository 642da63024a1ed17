package parse

import (
	"fmt"
	"reflect"
	"slices"
	"strings"
	"testing"

	"conduit/api"
)

// P7.3: the one form, with each blank that stands there and none that does not.
func TestPrintForms(t *testing.T) {
	for s, want := range map[string]string{
		"handler a=x-1caps b,c with open d:e 2 3caps f,g when!int|(text&!any)inbox 4drop i after j,k;": "handler a = x -1 caps b, c with open d:e 2 3 caps f, g when !int | text & !any inbox 4 drop i after j, k;\n",
		`route"t"when(sized|nil)&!(int|nil)->u;`:                                                       "route \"t\" when (sized | nil) & !(int | nil) -> u;\n",
		"route \"a b\"else->w;handler a=of b;route\"\\x41\\x0A\"->a;handler b=x 0;":                    "handler a = of b;\nhandler b = x 0;\nroute \"a b\" else -> w;\nroute \"A\\x0a\" -> a;\n",
		"handler a = x inbox 0;":               "handler a = x inbox 0;\n",
		"handler a = x -0;":                    "handler a = x -0;\n",
		"handler a = x after b;":               "handler a = x after b;\n",
		"handler a = x with y when ((any));":   "handler a = x with y when any;\n",
		`route "\"\\\x7f\x80 \x20~" -> a;`:     "route \"\\\"\\\\\\x7f\\x80  ~\" -> a;\n",
		`route "(" when ( ! ( ! int ) ) -> a;`: "route \"(\" when !!int -> a;\n",
		"":                                     "",
	} {
		if got := Print(taken(t, s)); got != want {
			t.Errorf("%s: %s", s, got)
		}
	}
}

// P7.3, P7.6: of any fit tree.
func TestPrintRandomTrees(t *testing.T) {
	r := newRandom(5)
	for range 4000 {
		tree := randomTree(r, 3)
		s := Print(tree)
		if s != chapterPrint(tree) || !Fit(tree) {
			t.Fatalf("%+v: %s, not %s", tree, s, chapterPrint(tree))
		}
		if back := taken(t, s); !Same(back, tree) || !exactly(plain(back), plain(tree)) {
			t.Fatalf("%s: %+v, not %+v", s, back, tree)
		}
	}
}

// edits are ways in which a tree may become another one; most break a rule.
func edits() map[string]func(t *api.Tree, h *api.HandlerDecl, w *api.WrapDecl, d *api.RouteDecl) {
	type tree = *api.Tree
	type handler = *api.HandlerDecl
	type wrap = *api.WrapDecl
	type route = *api.RouteDecl
	return map[string]func(tree, handler, wrap, route){
		"nothing":        func(tree, handler, wrap, route) {},
		"of":             func(_ tree, h handler, _ wrap, _ route) { h.Of.Name = "b" },
		"no of":          func(_ tree, h handler, _ wrap, _ route) { h.Of.Name = "" },
		"core":           func(_ tree, h handler, _ wrap, _ route) { h.Core.Word = "x" },
		"no core":        func(_ tree, h handler, _ wrap, _ route) { h.Core = api.CoreDecl{Pos: 9} },
		"core's caps":    func(_ tree, h handler, _ wrap, _ route) { h.Core.Caps = []api.Use{{Name: "x"}} },
		"no core's caps": func(_ tree, h handler, _ wrap, _ route) { h.Core.Caps = []api.Use{} },
		"has":            func(_ tree, h handler, _ wrap, _ route) { h.Core.Has = true },
		"has not":        func(_ tree, h handler, _ wrap, _ route) { h.Core.Has = false },
		"number":         func(_ tree, h handler, _ wrap, _ route) { h.Core.Num = 5 },
		"no number":      func(_ tree, h handler, _ wrap, _ route) { h.Core.Num = 0 },
		"minus":          func(_ tree, h handler, _ wrap, _ route) { h.Core.Minus = true },
		"no minus":       func(_ tree, h handler, _ wrap, _ route) { h.Core.Minus = false },
		"room":           func(_ tree, h handler, _ wrap, _ route) { h.Room = true },
		"no room":        func(_ tree, h handler, _ wrap, _ route) { h.Room = false },
		"inbox":          func(_ tree, h handler, _ wrap, _ route) { h.Inbox = 1 },
		"drop":           func(_ tree, h handler, _ wrap, _ route) { h.Drop.Name = "old" },
		"drop's place":   func(_ tree, h handler, _ wrap, _ route) { h.Drop.Pos = 3 },
		"numbers 3":      func(_ tree, _ handler, w wrap, _ route) { w.Nums = []uint64{1, 2, 3} },
		"numbers 2":      func(_ tree, _ handler, w wrap, _ route) { w.Nums = []uint64{1, 2, 3}[:2] },
		"wrap when":      func(_ tree, _ handler, w wrap, _ route) { w.When = true },
		"wrap not when":  func(_ tree, _ handler, w wrap, _ route) { w.When = false },
		"wrap's want":    func(_ tree, _ handler, w wrap, _ route) { w.Want = kind(api.KInt) },
		"wrap's num":     func(_ tree, _ handler, w wrap, _ route) { w.Want.Num = 1 },
		"wrap's list":    func(_ tree, _ handler, w wrap, _ route) { w.Want.List = []api.Want{{}} },
		"wrap's no list": func(_ tree, _ handler, w wrap, _ route) { w.Want.List = []api.Want{} },
		"wrap's no want": func(_ tree, _ handler, w wrap, _ route) { w.Want = api.Want{} },
		"when":           func(_ tree, _ handler, _ wrap, d route) { d.When = true },
		"not when":       func(_ tree, _ handler, _ wrap, d route) { d.When = false },
		"else":           func(_ tree, _ handler, _ wrap, d route) { d.Else = true },
		"not else":       func(_ tree, _ handler, _ wrap, d route) { d.Else = false },
		"want":           func(_ tree, _ handler, _ wrap, d route) { d.Want = kind(api.KInt) },
		"want's op":      func(_ tree, _ handler, _ wrap, d route) { d.Want.Op = api.WNot },
		"want's num":     func(_ tree, _ handler, _ wrap, d route) { d.Want.Num++ },
		"want's kind 14": func(_ tree, _ handler, _ wrap, d route) { d.Want = kind(14) },
		"want's face 10": func(_ tree, _ handler, _ wrap, d route) { d.Want = face(10) },
		"want of one":    func(_ tree, _ handler, _ wrap, d route) { d.Want = op(api.WOr, anything()) },
		"want of none":   func(_ tree, _ handler, _ wrap, d route) { d.Want = op(api.WAnd) },
		"not of two":     func(_ tree, _ handler, _ wrap, d route) { d.Want = op(api.WNot, anything(), anything()) },
		"not of none":    func(_ tree, _ handler, _ wrap, d route) { d.Want = op(api.WNot) },
		"no want":        func(_ tree, _ handler, _ wrap, d route) { d.Want = api.Want{} },
		"deep":           func(_ tree, _ handler, _ wrap, d route) { d.Want = repeated(33, anything(), not) },
		"no handlers":    func(t tree, _ handler, _ wrap, _ route) { t.Handlers = t.Handlers[:0] },
		"no routes":      func(t tree, _ handler, _ wrap, _ route) { t.Routes = t.Routes[:0] },
	}
}

// P7.2: a tree is fit just if it is, places aside, one that a text says.
func TestFitIsWhatCanBeSaid(t *testing.T) {
	r := newRandom(6)
	for name, edit := range edits() {
		is, not := 0, 0
		for range 300 {
			tree := randomTree(r, 2)
			tree.Handlers = append(tree.Handlers, randomHandler(r))
			tree.Routes = append(tree.Routes, randomRoute(r))
			h := &tree.Handlers[r.IntN(len(tree.Handlers))]
			h.Wraps = append(h.Wraps, randomWrap(r))
			edit(&tree, h, &h.Wraps[r.IntN(len(h.Wraps))], &tree.Routes[r.IntN(len(tree.Routes))])
			if fitAsSaid(t, tree) {
				is++
			} else {
				not++
			}
		}
		if name == "nothing" && not > 0 || is+not != 300 {
			t.Errorf("%s: %d are fit, %d are not", name, is, not)
		}
	}
}

// fitAsSaid holds Fit and Print of a small tree against what its text, as far as it has one, is read as.
func fitAsSaid(t *testing.T, tree api.Tree) bool {
	t.Helper()
	s := chapterPrint(tree)
	back, f := Parse([]byte(s))
	want := f.Err == api.OK && reflect.DeepEqual(plain(back), plain(tree))
	if Fit(tree) != want {
		t.Fatalf("%+v, %s: fit is %v", tree, s, !want)
	}
	if !want {
		s = ""
	}
	if got := Print(tree); got != s {
		t.Fatalf("%+v: %q, not %q", tree, got, s)
	}
	return want
}

// wholeTree has something in each field.
func wholeTree() api.Tree {
	both := op(api.WOr, not(anything()), op(api.WAnd, kind(api.KText), face(api.FSized)))
	return api.Tree{
		Handlers: []api.HandlerDecl{
			{
				Name: "a", Core: api.CoreDecl{Word: "b", Has: true, Minus: true, Num: 1, Caps: []api.Use{{Name: "c", Pos: 1}, {Name: "d", Pos: 2}}, Pos: 3},
				Wraps: []api.WrapDecl{{Open: true, Word: "e", Sub: "f", Nums: []uint64{1, 2}, Caps: []api.Use{{Name: "g", Pos: 4}}, When: true, Want: both, Pos: 5}, {Word: "h"}},
				Room:  true, Inbox: 3, Drop: api.Use{Name: "i", Pos: 6}, After: []api.Use{{Name: "j", Pos: 7}, {Name: "k", Pos: 8}}, Pos: 9,
			},
			{Name: "l", Of: api.Use{Name: "m", Pos: 10}, Pos: 11},
		},
		Routes: []api.RouteDecl{
			{Filter: api.Use{Name: "x", Pos: 12}, When: true, Want: both, To: api.Use{Name: "o", Pos: 13}, Pos: 14},
			{Filter: api.Use{Name: "y", Pos: 15}, Else: true, To: api.Use{Name: "p", Pos: 16}},
		},
	}
}

// eachPlace calls f with a copy of a tree for each of its places, and that place.
func eachPlace(tree api.Tree, f func(path string, v reflect.Value, whole func() api.Tree)) {
	var paths []string
	copyOf(tree, func(path string, v reflect.Value) { paths = append(paths, path) })
	for _, p := range paths {
		copied := reflect.New(reflect.TypeOf(tree)).Elem()
		copied.Set(reflect.ValueOf(tree))
		var at reflect.Value
		copyInto("", copied, func(path string, v reflect.Value) {
			if path == p {
				at = v
			}
		})
		f(p, at, func() api.Tree { return copied.Interface().(api.Tree) })
	}
}

// P7.2: each name that is none, wherever a name stands; the filter is a text.
func TestFitNames(t *testing.T) {
	good := []string{"a", "_", "Z", "x9", "int", "With", "handlers", strings.Repeat("n", 32)}
	bad := []string{" a", "a ", "a b", "a,b", "a#", "#a", "a/**/", "9a", "9", "é", "a\x00", "-", ";", "\"a\"", "of", "handler", "with", "when", "open", "after", "caps", "drop", "else", "inbox", "route", strings.Repeat("n", 33), strings.Repeat("n", 70000), "a = x; handler b", strings.Repeat(" ", 40) + "a"}
	// What stands there already leaves these no room, but to be empty.
	taken := []string{".Handlers[0].Of.Name", ".Handlers[1].Core.Word", ".Handlers[1].Drop.Name"}
	names := 0
	eachPlace(wholeTree(), func(path string, v reflect.Value, whole func() api.Tree) {
		if v.Kind() != reflect.String {
			return
		}
		names++
		isFilter := strings.HasSuffix(path, ".Filter.Name")
		for is, l := range map[bool][]string{true: good, false: bad} {
			for _, s := range l {
				v.SetString(s)
				want := is && !slices.Contains(taken, path) || isFilter && len(s) <= 65535
				if Fit(whole()) != want || (Print(whole()) != "") != want {
					t.Errorf("%s is %.40q: %v", path, s, !want)
				}
			}
		}
		v.SetString("")
		want := isFilter || slices.Contains(taken, path) || strings.HasSuffix(path, ".Sub") || strings.HasSuffix(path, ".Drop.Name")
		if Fit(whole()) != want {
			t.Errorf("%s is empty: %v", path, !want)
		}
	})
	if names < 20 {
		t.Error(names)
	}
}

// P7.2: a filter has at most 65535 bytes.
func TestFitFilter(t *testing.T) {
	for n, want := range map[int]bool{0: true, 65534: true, 65535: true, 65536: false, 70000: false} {
		for _, b := range []string{"x", "\x00"} {
			tree := api.Tree{Routes: []api.RouteDecl{{Filter: api.Use{Name: strings.Repeat(b, n)}, To: api.Use{Name: "a"}}}}
			s := ""
			if want {
				s = chapterPrint(tree)
			}
			if Fit(tree) != want || Print(tree) != s {
				t.Errorf("%d bytes %q: %v, %d bytes", n, b, Fit(tree), len(Print(tree)))
			}
		}
	}
}

// P7.2, P7.4: places play no part, whatever they are, nor whether a list is nil or empty.
func TestPlacesAside(t *testing.T) {
	tree := wholeTree()
	bare := plain(tree)
	if !Fit(tree) || !Same(tree, bare) || Print(tree) != chapterPrint(bare) {
		t.Error(Print(tree))
	}
	eachPlace(tree, func(path string, v reflect.Value, whole func() api.Tree) {
		if !isPlace(path) {
			return
		}
		for _, at := range []int64{-1, 0, 1 << 40} {
			v.SetInt(at)
			if x := whole(); !Fit(x) || !Same(x, tree) || !Same(tree, x) || Print(x) != Print(tree) {
				t.Errorf("%s is %d", path, at)
			}
		}
	})
	empty := api.Tree{Handlers: []api.HandlerDecl{{Name: "a", Core: api.CoreDecl{Word: "x"}}}}
	full := copyOf(empty, func(string, reflect.Value) {})
	full.Routes = []api.RouteDecl{}
	full.Handlers[0].Wraps = []api.WrapDecl{}
	full.Handlers[0].After = make([]api.Use, 0, 4)
	full.Handlers[0].Core.Caps = []api.Use{{Name: "far"}}[:0]
	if !Same(empty, full) || !Same(full, empty) || !Fit(full) || Print(full) != "handler a = x;\n" {
		t.Error(Print(full))
	}
}

// P7.4: whatever else is another, the trees are not the same.
func TestSameEachField(t *testing.T) {
	tree := wholeTree()
	if !Same(tree, tree) || !Same(api.Tree{}, api.Tree{}) || Same(tree, api.Tree{}) {
		t.Error("a tree is not the same as itself")
	}
	eachPlace(tree, func(path string, v reflect.Value, whole func() api.Tree) {
		if isPlace(path) {
			return
		}
		switch v.Kind() {
		case reflect.Bool:
			v.SetBool(!v.Bool())
		case reflect.String:
			v.SetString(v.String() + "z")
		case reflect.Int:
			v.SetInt(v.Int() + 1)
		case reflect.Uint64:
			v.SetUint(v.Uint() + 1)
		case reflect.Slice:
			if v.Len() > 0 {
				v.Set(v.Slice(0, v.Len()-1))
			} else {
				v.Set(reflect.MakeSlice(v.Type(), 1, 1))
			}
		default:
			t.Fatal(path)
		}
		if x := whole(); Same(tree, x) || Same(x, tree) || !Same(x, x) {
			t.Errorf("%s is another: still the same", path)
		}
	})
}

// P7.4: orders of lists count.
func TestSameOrder(t *testing.T) {
	a := taken(t, `handler a = x caps c, d; handler b = x; route "a" when int | nil -> a; route "b" -> a;`)
	for _, s := range []string{
		`handler b = x; handler a = x caps c, d; route "a" when int | nil -> a; route "b" -> a;`,
		`handler a = x caps d, c; handler b = x; route "a" when int | nil -> a; route "b" -> a;`,
		`handler a = x caps c, d; handler b = x; route "b" -> a; route "a" when int | nil -> a;`,
		`handler a = x caps c, d; handler b = x; route "a" when nil | int -> a; route "b" -> a;`,
	} {
		if b := taken(t, s); Same(a, b) || Same(b, a) {
			t.Error(s)
		}
	}
	if b := taken(t, `route "a" when (int)|nil->a; handler a=x caps c,d; route "b" -> a; handler b = x;`); !Same(a, b) {
		t.Error("the same, mixed otherwise, is not the same")
	}
	// Trees that are not fit are held against each other, too.
	odd := api.Tree{Routes: []api.RouteDecl{{Want: api.Want{Op: 99, List: []api.Want{{Num: -1}}}}}}
	if Fit(odd) || !Same(odd, copyOf(odd, func(string, reflect.Value) {})) {
		t.Error(fmt.Sprint(odd))
	}
}

// 0.1: as deep as what is given may be nested.
func TestDeepTrees(t *testing.T) {
	deep := func(n int) api.Tree {
		return api.Tree{Routes: []api.RouteDecl{{When: true, Want: repeated(n, anything(), not), To: api.Use{Name: "a"}}}}
	}
	a := deep(65000)
	if Fit(a) || Print(a) != "" || Text(a.Routes[0].Want) != "" {
		t.Error("a pattern that is too deep is fit")
	}
	if !Same(a, deep(65000)) || Same(a, deep(64999)) {
		t.Error("deep patterns are held against each other otherwise")
	}
}
