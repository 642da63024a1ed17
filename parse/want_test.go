package parse

import (
	"strings"
	"testing"

	"conduit/api"
	"conduit/scan"
)

// P7.5: each word, and no other.
func TestWords(t *testing.T) {
	wants := []api.Want{anything()}
	for k := range api.NumKinds {
		wants = append(wants, kind(k))
	}
	for f := range api.NumFaces {
		wants = append(wants, face(f))
	}
	words := chapterWords()
	if len(words) != len(wants) {
		t.Fatal(len(words), len(wants))
	}
	for i, word := range words {
		if w, ok := Want(word); !ok || !exactly(w, wants[i]) {
			t.Errorf("%s: %v %v", word, w, ok)
		}
		if s := Text(wants[i]); s != word {
			t.Errorf("%v: %s", wants[i], s)
		}
		for _, other := range []string{word + "s_", "x" + word, strings.ToUpper(word), word[:1]} {
			if w, ok := Want(other); ok || !exactly(w, api.Want{}) {
				t.Errorf("%s: %v", other, w)
			}
		}
	}
	// The numbers as the chapter names them, where an order that is off would still be one.
	for word, w := range map[string]api.Want{"error": kind(api.KErr), "pointer": kind(api.KPtr), "nopointer": kind(api.KNoPtr), "unit": kind(api.KUnit), "name": kind(api.KName), "named": face(api.FNamed), "number": face(api.FNumber), "whole": face(api.FWhole)} {
		if got, ok := Want(word); !ok || !exactly(got, w) {
			t.Errorf("%s: %v", word, got)
		}
	}
}

// P7.5: all short rows of tokens, by the grammar from want on.
func TestShortWants(t *testing.T) {
	pieces := []string{"!", "(", ")", "&", "|", "int", "foo", "of"}
	is := 0
	for n := range 6 {
		for _, row := range every(pieces, n) {
			s := strings.Join(row, " ")
			w, ok := Want(s)
			if want := chapterFault(s, "want"); ok != (want.Err == api.OK) {
				t.Fatalf("%q: %v, %v", s, ok, want)
			}
			if !ok && !exactly(w, api.Want{}) {
				t.Fatalf("%q: %v beside false", s, w)
			}
			if ok {
				is++
			}
			if n < 5 {
				asked(t, `route "" when `+s+" -> a;")
			}
		}
	}
	if is < 20 {
		t.Error(is)
	}
}

// P7.5: gaps as chapter 6 has them, and nothing else around a pattern.
func TestWantGaps(t *testing.T) {
	for _, s := range []string{"int|nil", " int | nil ", "int/**/|# x\nnil", "\tint\r\n|nil#", "(int|nil)", "((int)|(nil))"} {
		if w, ok := Want(s); !ok || Text(w) != "int | nil" {
			t.Errorf("%q: %v %v", s, w, ok)
		}
	}
	for _, s := range []string{"", " ", "# int", "int nil", "int,nil", "int;", ";", "int -> a", "when int", "int |", "| int", "int || nil", "int && nil", "()", "(int", "int)", "! ", "!!", "int!", "int @", "int /*", "\"int\"", "3", "in t", "int\x00"} {
		if w, ok := Want(s); ok || !exactly(w, api.Want{}) {
			t.Errorf("%q: %v %v", s, w, ok)
		}
	}
}

// P7.5: "&" binds more than "|", "!" more than both; rows stay as parentheses have them.
func TestWantShapes(t *testing.T) {
	i, x, n := kind(api.KInt), kind(api.KText), kind(api.KNil)
	for s, want := range map[string]api.Want{
		"int | text | nil":     op(api.WOr, i, x, n),
		"int & text & nil":     op(api.WAnd, i, x, n),
		"int | text & nil":     op(api.WOr, i, op(api.WAnd, x, n)),
		"int & text | nil":     op(api.WOr, op(api.WAnd, i, x), n),
		"(int | text) & nil":   op(api.WAnd, op(api.WOr, i, x), n),
		"int & (text | nil)":   op(api.WAnd, i, op(api.WOr, x, n)),
		"int | (text | nil)":   op(api.WOr, i, op(api.WOr, x, n)),
		"(int | text) | nil":   op(api.WOr, op(api.WOr, i, x), n),
		"int & (text & nil)":   op(api.WAnd, i, op(api.WAnd, x, n)),
		"(int & text) & nil":   op(api.WAnd, op(api.WAnd, i, x), n),
		"!int & text":          op(api.WAnd, not(i), x),
		"!int | text":          op(api.WOr, not(i), x),
		"!(int | text)":        not(op(api.WOr, i, x)),
		"!(int & text)":        not(op(api.WAnd, i, x)),
		"!!int":                not(not(i)),
		"!!(int | !text)":      not(not(op(api.WOr, i, not(x)))),
		"int & !(text | nil)":  op(api.WAnd, i, not(op(api.WOr, x, n))),
		"(int | text) & !!nil": op(api.WAnd, op(api.WOr, i, x), not(not(n))),
	} {
		if w, ok := Want(s); !ok || !exactly(w, want) {
			t.Errorf("%s: %v %v", s, w, ok)
		}
		if got := Text(want); got != s {
			t.Errorf("%s: %s", s, got)
		}
	}
	for s, want := range map[string]string{"(int & text) | nil": "int & text | nil", "!(int)": "!int", "(!int)": "!int", "!(!int)": "!!int", "((int & text)) | (nil)": "int & text | nil", "((int | text)) | nil": "(int | text) | nil"} {
		if w, ok := Want(s); !ok || Text(w) != want {
			t.Errorf("%s: %s %v", s, Text(w), ok)
		}
	}
}

// P7.5: Text of patterns that come near the depth that they may have, held against what its tokens say.
func TestTextDepth(t *testing.T) {
	r := newRandom(4)
	is, not := 0, 0
	for range 8000 {
		w := randomDeep(r)
		s := chapterText(w)
		l, _ := scan.Scan([]byte(s))
		if tooDeep(l) < len(l) {
			s, not = "", not+1
		} else {
			is++
		}
		if got := Text(w); got != s {
			t.Fatalf("%v: %s, not %s", w, got, s)
		}
	}
	if is < 1000 || not < 200 {
		t.Error(is, not)
	}
}

// P7.2, P7.5: just as deep as it may be, and one deeper, by each mark.
func TestTextDepthEdges(t *testing.T) {
	i := kind(api.KInt)
	rows := func(o int) func(api.Want) api.Want { return func(w api.Want) api.Want { return op(o, i, w) } }
	both := func(w api.Want) api.Want { return op(api.WOr, op(api.WAnd, w, i), i) }
	two := op(api.WOr, i, i)
	for _, c := range []struct {
		w  api.Want
		is bool
	}{
		{repeated(32, i, not), true},
		{repeated(33, i, not), false},
		{repeated(31, two, not), true},
		{repeated(32, two, not), false},
		{repeated(32, two, rows(api.WOr)), true},
		{repeated(33, two, rows(api.WOr)), false},
		{repeated(32, op(api.WAnd, i, i), rows(api.WAnd)), true},
		{repeated(33, op(api.WAnd, i, i), rows(api.WAnd)), false},
		{repeated(32, two, both), true},
		{repeated(33, two, both), false},
		{repeated(16, two, func(w api.Want) api.Want { return not(w) }), true},
		{repeated(16, two, func(w api.Want) api.Want { return op(api.WOr, not(w), i) }), true},
		{repeated(17, two, func(w api.Want) api.Want { return op(api.WOr, not(w), i) }), false},
	} {
		s := Text(c.w)
		if (s != "") != c.is || c.is && s != chapterText(c.w) {
			t.Errorf("%s: %q", chapterText(c.w), s)
		}
		if back, ok := Want(chapterText(c.w)); ok != c.is || c.is && !exactly(back, c.w) {
			t.Errorf("%s: %v", chapterText(c.w), ok)
		}
	}
}

// P7.2, P7.5: as many parts as it may have, however long its text is, and one more.
func TestTextParts(t *testing.T) {
	for _, c := range []struct {
		w  api.Want
		is bool
	}{
		{broad(api.WOr, 16383), true},
		{broad(api.WOr, 16384), false},
		{broad(api.WAnd, 16383), true},
		{broad(api.WAnd, 16384), false},
		{not(broad(api.WOr, 16382)), true},
		{not(broad(api.WOr, 16383)), false},
		{op(api.WAnd, broad(api.WOr, 8190), broad(api.WOr, 8191)), true},
		{op(api.WAnd, broad(api.WOr, 8191), broad(api.WOr, 8191)), false},
	} {
		s := Text(c.w)
		if (s != "") != c.is || c.is && s != chapterText(c.w) {
			t.Errorf("%d operands: %d bytes", len(c.w.List), len(s))
		}
		tree := api.Tree{Routes: []api.RouteDecl{{When: true, Want: c.w, To: api.Use{Name: "a"}}}}
		if Fit(tree) != c.is || Print(tree) != map[bool]string{true: "route \"\" when " + s + " -> a;\n"}[c.is] {
			t.Errorf("%d operands: fit is %v", len(c.w.List), Fit(tree))
		}
	}
}

// P7.5: each Op with each form.
func TestTextForms(t *testing.T) {
	two := []api.Want{anything(), kind(api.KInt)}
	for o := -2; o <= api.NumWants+2; o++ {
		for n := -2; n <= api.NumKinds+2; n++ {
			for _, l := range [][]api.Want{nil, {}, two[:1], two, {two[0], two[1], two[0]}} {
				w := api.Want{Op: o, Num: n, List: l}
				is := false
				switch o {
				case api.WAny:
					is = n == 0 && len(l) == 0
				case api.WKind:
					is = n >= api.KNil && n <= api.KUnit && len(l) == 0
				case api.WFace:
					is = n >= api.FSized && n <= api.FWhole && len(l) == 0
				case api.WOr, api.WAnd:
					is = n == 0 && len(l) >= 2
				case api.WNot:
					is = n == 0 && len(l) == 1
				}
				for _, around := range []func(api.Want) api.Want{
					func(w api.Want) api.Want { return w }, not,
					func(w api.Want) api.Want { return op(api.WOr, w, two[0]) }, func(w api.Want) api.Want { return op(api.WAnd, two[0], two[1], w) },
				} {
					x := around(w)
					if got := Text(x); (got != "") != is || is && got != chapterText(x) {
						t.Errorf("%v: %q", x, got)
					}
				}
			}
		}
	}
	for _, far := range []int{1 << 62, -1 << 62, 1 << 32, 1<<32 + 1} {
		for _, w := range []api.Want{{Op: far}, kind(far), face(far), {Op: api.WAny, Num: far}, {Op: api.WNot, Num: far, List: two[:1]}} {
			if got := Text(w); got != "" {
				t.Errorf("%v: %s", w, got)
			}
		}
	}
}

// 0.1: patterns that stand in themselves, or share their parts over and over, are answered.
func TestTextEnds(t *testing.T) {
	for _, o := range []int{api.WOr, api.WAnd} {
		itself := make([]api.Want, 2)
		for i := range itself {
			itself[i] = api.Want{Op: o, List: itself}
		}
		if s := Text(itself[0]); s != "" {
			t.Error(s)
		}
	}
	turns := make([]api.Want, 2)
	turns[0] = anything()
	turns[1] = not(op(api.WOr, anything(), op(api.WAnd, turns...)))
	turns[1].List[0].List[1].List = turns
	if s := Text(turns[1]); s != "" {
		t.Error(s)
	}
	w := anything()
	for i := range 60 {
		w = op(api.WOr+i%2, w, w)
	}
	if s := Text(w); s != "" {
		t.Error(len(s))
	}
}
