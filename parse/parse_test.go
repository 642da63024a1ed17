package parse

import (
	"math"
	"slices"
	"strings"
	"testing"

	"conduit/api"
	"conduit/scan"
)

// P7.1: what is written, and where, in each field.
func TestWholeTree(t *testing.T) {
	s := `route"x"when!int->b; handler a=fail - 3 caps flush,close with open map : double 1 2caps save when any|nil with hide inbox 5 drop old after b,c;` +
		"\n# more\nhandler b = of a; route \"\\x41\" else -> a; route \"\" -> /* here */ c;"
	at := func(piece string) int { return strings.Index(s, piece) }
	tree := taken(t, s)
	want := api.Tree{
		Handlers: []api.HandlerDecl{{
			Name: "a",
			Core: api.CoreDecl{Word: "fail", Has: true, Minus: true, Num: 3, Caps: []api.Use{{Name: "flush", Pos: at("flush")}, {Name: "close", Pos: at("close")}}, Pos: at("fail")},
			Wraps: []api.WrapDecl{
				{Open: true, Word: "map", Sub: "double", Nums: []uint64{1, 2}, Caps: []api.Use{{Name: "save", Pos: at("save")}}, When: true, Want: op(api.WOr, anything(), kind(api.KNil)), Pos: at("map")},
				{Word: "hide", Pos: at("hide")},
			},
			Room: true, Inbox: 5, Drop: api.Use{Name: "old", Pos: at("old")},
			After: []api.Use{{Name: "b", Pos: at("b,c")}, {Name: "c", Pos: at("c;")}},
			Pos:   at("handler a"),
		}, {
			Name: "b", Of: api.Use{Name: "a", Pos: at("a; route")}, Pos: at("handler b"),
		}},
		Routes: []api.RouteDecl{
			{Filter: api.Use{Name: "x", Pos: 5}, When: true, Want: not(kind(api.KInt)), To: api.Use{Name: "b", Pos: at("b; handler")}, Pos: 0},
			{Filter: api.Use{Name: "A", Pos: at(`"\x41"`)}, Else: true, To: api.Use{Name: "a", Pos: at(`a; route ""`)}, Pos: at(`route "\`)},
			{Filter: api.Use{Name: "", Pos: at(`""`)}, To: api.Use{Name: "c", Pos: len(s) - 2}, Pos: at(`route ""`)},
		},
	}
	if !exactly(tree, want) {
		t.Errorf("%+v\nnot\n%+v", tree, want)
	}
}

// P7.1: any tree, written in any way, is read as it is.
func TestRandomTrees(t *testing.T) {
	r := newRandom(1)
	for range 4000 {
		want := randomTree(r, 3)
		s := sourceOf(r, want)
		if tree := taken(t, s); !exactly(tree, want) {
			t.Fatalf("%q:\n%+v\nnot\n%+v", s, tree, want)
		}
	}
}

// P7.1: texts without a token are trees without anything.
func TestEmptyTrees(t *testing.T) {
	for _, s := range []string{"", " ", "\n\t\r ", "# x", "/* handler */", strings.Repeat("\n", api.MaxSource)} {
		if tree := taken(t, s); len(tree.Handlers)+len(tree.Routes) != 0 {
			t.Error(tree)
		}
	}
	if tree, f := Parse(nil); f != (api.Fault{}) || len(tree.Handlers)+len(tree.Routes) != 0 {
		t.Error(tree, f)
	}
}

// P7.1: "-" is written apart from its number or not; nought has it or not; numbers go up to the greatest.
func TestNumbers(t *testing.T) {
	for s, want := range map[string]api.CoreDecl{
		"":                      {},
		"0":                     {Has: true},
		"-0":                    {Has: true, Minus: true},
		"- /**/ 7":              {Has: true, Minus: true, Num: 7},
		"18446744073709551615":  {Has: true, Num: math.MaxUint64},
		"-18446744073709551615": {Has: true, Minus: true, Num: math.MaxUint64},
	} {
		want.Word, want.Pos = "x", 12
		if got := taken(t, "handler a = x "+s+";").Handlers[0].Core; !exactly(got, want) {
			t.Errorf("%s: %v", s, got)
		}
	}
	for s, n := range map[string]uint64{"0": 0, "18446744073709551615": math.MaxUint64} {
		tree := taken(t, "handler a = x with y "+s+" inbox "+s+";")
		if h := tree.Handlers[0]; h.Inbox != n || !slices.Equal(h.Wraps[0].Nums, []uint64{n}) {
			t.Errorf("%s: %v", s, h)
		}
	}
	refused(t, "handler a = x 18446744073709551616;", 14, api.ErrInt)
	refused(t, "handler a = x 01;", 14, api.ErrInt)
}

// full is a text in which each form of the grammar stands.
const full = `handler a = x - 1 caps b, c with open d : e 2 3 caps f, g when ! int | ( text & ! any ) & nil with h inbox 4 drop i after j, k ; ` +
	`handler l = of m with n 5 when any after o ; handler p = q 6 ; handler r = of s inbox 7 ; route "t" when sized -> u ; route "v" else -> w ; route "x" -> y ; `

// spellings is a token of each kind, and a pattern's word beside a name that is none.
func spellings() []string {
	l := []string{"foo", "int", "8", `"z"`}
	for kind := api.TokAfter; kind < api.NumTok; kind++ {
		l = append(l, scan.Text(kind))
	}
	return l
}

// ownBytes is those of each token of a text.
func ownBytes(s string) []string {
	tokens, _ := scan.Scan([]byte(s))
	var own []string
	for _, x := range tokens {
		own = append(own, s[x.Pos:x.End])
	}
	return own
}

// P7.1: behind each beginning of a text, each token: where it can't stand, and what is told.
func TestEachTokenEverywhere(t *testing.T) {
	tokens := ownBytes(full)
	if _, f := asked(t, strings.Join(tokens, " ")); f.Err != api.OK {
		t.Fatal(f)
	}
	for i := range tokens {
		begun := strings.Join(tokens[:i], " ") + " "
		asked(t, begun)
		for _, x := range spellings() {
			asked(t, begun+x)
			asked(t, begun+x+" "+strings.Join(tokens[i:], " "))
			asked(t, begun+x+" "+strings.Join(tokens[i+1:], " "))
		}
	}
}

// P7.1: texts that are broken at random.
func TestBrokenTexts(t *testing.T) {
	r := newRandom(2)
	told := map[api.Errno]int{}
	for range 6000 {
		own := ownBytes(sourceOf(r, randomTree(r, 2)))
		for range 1 + r.IntN(2) {
			at := r.IntN(len(own) + 1)
			switch r.IntN(4) {
			case 0:
				own = own[:at]
			case 1:
				own = slices.Insert(own, at, pick(r, spellings()...))
			case 2:
				own = slices.Delete(own, at, min(at+1, len(own)))
			default:
				own = slices.Replace(own, at, min(at+1, len(own)), pick(r, append(spellings(), "foo", "foo", "foo")...))
			}
		}
		_, f := asked(t, strings.Join(own, pick(r, " ", "\n", " /**/ "))+pick(r, "", " ", " # x"))
		told[f.Err]++
	}
	if told[api.OK] < 100 || told[api.ErrSyntax] < 1000 || told[api.ErrWant] < 20 {
		t.Error(told)
	}
}

// P7.1: the text's own fault comes first, wherever it stands.
func TestScansFaultFirst(t *testing.T) {
	for tail, e := range map[string]api.Errno{"@": api.ErrByte, "/*": api.ErrComment, "01": api.ErrInt, `"`: api.ErrText, strings.Repeat("x", 33): api.ErrWord} {
		for _, s := range []string{"", "x x ", "handler a = ; ", `route "a" when foo `, `route "a" when ` + strings.Repeat("!", 40), "handler a = x; "} {
			refused(t, s+tail, len(s), e)
		}
	}
	refused(t, strings.Repeat(";", 16385), 16384, api.ErrTokens)
	refused(t, strings.Repeat(" ", 65537), 0, api.ErrLong)
	refused(t, strings.Repeat(";", 65537), 0, api.ErrLong)
}

// P7.1: a text that ends too soon is told at its length, blanks and comments behind it too.
func TestEndsTooSoon(t *testing.T) {
	for _, s := range []string{"handler", "handler a", "handler a =", "handler a = x", "handler a = x -", "handler a = x caps", "handler a = x caps b,", "handler a = x with", "handler a = x with y:", "handler a = x inbox", "handler a = x inbox 3 drop", "handler a = x after", "handler a = of", "route", `route "a"`, `route "a" when`, `route "a" when !`, `route "a" when (int`, `route "a" else`, `route "a" ->`, `route "a" -> b`} {
		for _, tail := range []string{"", " ", "\n\n", " # x", "/* ; */"} {
			refused(t, s+tail, len(s+tail), api.ErrSyntax)
		}
	}
}

// P7.1: at most two numbers in a wrap, one in a core, and none behind "of".
func TestNumbersTooMany(t *testing.T) {
	taken(t, "handler a = x 1 with y 1 2 with z 3 4;")
	refused(t, "handler a = x with y 1 2 3;", 25, api.ErrSyntax)
	refused(t, "handler a = x with y 1 2 with z 3 4 5;", 36, api.ErrSyntax)
	refused(t, "handler a = x 1 2;", 16, api.ErrSyntax)
	refused(t, "handler a = of x 1;", 17, api.ErrSyntax)
	refused(t, "handler a = of x caps b;", 17, api.ErrSyntax)
	refused(t, "handler a = x with y -1;", 21, api.ErrSyntax)
	refused(t, "handler a = x inbox -1;", 20, api.ErrSyntax)
}

// P7.1: at most 32 are open or wait, however mixed; a pattern that has ended counts no more.
func TestDepth(t *testing.T) {
	r := newRandom(3)
	lead := `route "a" when `
	for _, depth := range []int{0, 1, 31, 32} {
		for range 50 {
			open, shut := "", ""
			for range depth {
				if r.IntN(2) == 0 {
					open += "!"
				} else {
					open, shut = open+"(", shut+")"
				}
			}
			deep := open + "int" + shut
			taken(t, lead+deep+" -> a;")
			taken(t, lead+deep+"|"+deep+"&"+deep+" -> a; "+lead+deep+" -> a;")
			taken(t, "handler a = x with y when "+deep+" with y when "+deep+";")
			if _, ok := Want(deep + "|" + deep); !ok {
				t.Errorf("%s is no pattern", deep)
			}
			if depth < 32 {
				continue
			}
			for _, x := range []string{"!", "("} {
				refused(t, lead+open+x, len(lead)+32, api.ErrDepth)
				refused(t, lead+deep+" & "+open+x+"int", len(lead+deep)+3+32, api.ErrDepth)
				refused(t, lead+open+x+x+x+" @", len(lead+open)+4, api.ErrByte)
				if w, ok := Want(open + x + "int" + strings.ReplaceAll(x, "(", ")") + shut); ok || !exactly(w, api.Want{}) {
					t.Errorf("%s%s: %v", open, x, w)
				}
			}
			refused(t, lead+open+"foo", len(lead)+32, api.ErrWant)
			refused(t, lead+open+")", len(lead)+32, api.ErrSyntax)
		}
	}
}

// P7.1: of several faults the first one.
func TestFirstFault(t *testing.T) {
	refused(t, `route "a" when foo & ! -> ; x`, 15, api.ErrWant)
	refused(t, `route "a" when & foo`, 15, api.ErrSyntax)
	refused(t, `route "a" when of | foo`, 15, api.ErrSyntax)
	refused(t, `route "a" when ( foo`, 17, api.ErrWant)
	refused(t, `route "a" when `+strings.Repeat("!", 33)+"foo", 47, api.ErrDepth)
	refused(t, `route "a" when `+strings.Repeat("!", 32)+"foo !", 47, api.ErrWant)
	refused(t, `route "a" when int `+strings.Repeat("!", 33), 19, api.ErrSyntax)
	refused(t, `x route "a" when foo`, 0, api.ErrSyntax)
	refused(t, `handler foo = foo when int;`, 18, api.ErrSyntax)
}

// P7.1: all the room that a text has.
func TestGreatTexts(t *testing.T) {
	// Six tokens each; the last four of 16384 are too few for one more.
	s := strings.Repeat("route\"\"->a;", 2730) + "handler a=x"
	refused(t, s, len(s), api.ErrSyntax)
	if tree := taken(t, strings.TrimSuffix(s, "handler a=x")); len(tree.Routes) != 2730 {
		t.Error(len(tree.Routes))
	}
	row := "route\"\"when" + strings.Repeat(" nil|", 8188) + "nil->a;"
	if w := taken(t, row).Routes[0].Want; w.Op != api.WOr || len(w.List) != 8189 {
		t.Error(w.Op, len(w.List))
	}
	filter := strings.Repeat("x", 65536-len(`route""->a;`))
	if tree := taken(t, `route"`+filter+`"->a;`); tree.Routes[0].Filter.Name != filter {
		t.Error("a long filter is read otherwise")
	}
}
