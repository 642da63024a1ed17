package parse

import (
	"bytes"
	"reflect"
	"slices"
	"strings"
	"testing"

	"conduit/api"
	"conduit/scan"
)

// follows holds what a text answers against P7.6 to P7.8.
func follows(t testing.TB, s string) {
	t.Helper()
	tree, f := Parse([]byte(s))
	if f.Err != api.OK {
		if f.Pos < 0 || f.Pos > len(s) {
			t.Fatalf("%q: %v", s, f)
		}
		return
	}
	one := Print(tree)
	if !Fit(tree) || one != chapterPrint(tree) {
		t.Fatalf("%q: %q", s, one)
	}
	if len(one) > api.MaxSource {
		return
	}
	back, f := Parse([]byte(one))
	if f.Err != api.OK || !Same(tree, back) || !reflect.DeepEqual(plain(tree), plain(back)) || Print(back) != one {
		t.Fatalf("%q: %q, %v", s, one, f)
	}
	routes := 0
	for line := range strings.Lines(one) {
		if strings.HasPrefix(line, "route ") {
			routes++
		} else if routes > 0 {
			t.Fatalf("%q: a handler behind a route", one)
		}
	}
}

// P7.7: of texts that are taken.
func TestOneForm(t *testing.T) {
	r := newRandom(7)
	for range 3000 {
		follows(t, sourceOf(r, randomTree(r, 3)))
	}
	follows(t, full)
	follows(t, "")
	follows(t, strings.Repeat("route\"\"->a;", 2730)+strings.Repeat(" ", 65536-2730*11))
	// Its one form is too long to be read again; it is written nevertheless.
	tight := "route\"\"when " + strings.Repeat("failing|", 8000) + "nil->a;"
	follows(t, tight)
	if one := Print(taken(t, tight)); len(one) <= api.MaxSource {
		t.Error(len(one))
	} else {
		refused(t, one, 0, api.ErrLong)
	}
}

// P7.6: patterns there and back, as long as their text may be read.
func TestWantThereAndBack(t *testing.T) {
	r := newRandom(8)
	for range 5000 {
		w := randomWant(r, r.IntN(12))
		s := Text(w)
		if back, ok := Want(s); !ok || !exactly(back, w) || s != chapterText(w) {
			t.Fatalf("%q: %v %v, not %v", s, back, ok, w)
		}
	}
	for n, want := range map[int]bool{8192: true, 8193: false} {
		l := make([]api.Want, n)
		for i := range l {
			l[i] = kind(api.KInt)
		}
		w := op(api.WAnd, l...)
		if back, ok := Want(Text(w)); ok != want || want && !exactly(back, w) || len(Text(w)) != 6*n-3 {
			t.Errorf("a row of %d: %v", n, ok)
		}
	}
	long := op(api.WOr, slices.Repeat([]api.Want{kind(api.KNoPtr)}, 6000)...)
	if s := Text(long); len(s) != 12*6000-3 {
		t.Error(len(s))
	} else if w, ok := Want(s); ok || !exactly(w, api.Want{}) {
		t.Error("a text that is too long is a pattern")
	}
}

// P7.8: what stands behind the token at which a fault is told plays no part.
func TestBehindAFault(t *testing.T) {
	r := newRandom(9)
	told := map[api.Errno]int{}
	for range 3000 {
		s := sourceOf(r, randomTree(r, 2))
		l, _ := scan.Scan([]byte(s))
		if len(l) == 0 {
			continue
		}
		cut := l[r.IntN(len(l))].Pos
		s = s[:cut] + " " + pick(r, append(spellings(), strings.Repeat("!", 40), "foo")...) + " " + s[cut:]
		tree, f := Parse([]byte(s))
		if f.Err == api.OK || f.Pos == len(s) {
			continue
		}
		told[f.Err]++
		tokens, _ := scan.Scan([]byte(s))
		at := slices.IndexFunc(tokens, func(x api.Token) bool { return x.Pos == f.Pos })
		if at < 0 {
			t.Fatalf("%q: no token at %d", s, f.Pos)
		}
		begun := s[:tokens[at].End]
		for _, tail := range []string{"", " ", " " + strings.Join(spellings(), " "), " " + full, " ; x", " ->", " 3", " # x"} {
			if _, again := Parse([]byte(begun + tail)); again != f {
				t.Fatalf("%q, %q: %v, then %v", s, begun+tail, f, again)
			}
		}
		if !exactly(tree, api.Tree{}) {
			t.Fatalf("%q: %v", s, tree)
		}
	}
	if told[api.ErrSyntax] < 1000 || told[api.ErrWant] < 10 || told[api.ErrDepth] < 5 {
		t.Error(told)
	}
}

// 0.3: the same again, whatever was asked in between.
func TestSameAgain(t *testing.T) {
	r := newRandom(10)
	type answer struct {
		text string
		tree api.Tree
		f    api.Fault
		one  string
	}
	var first []answer
	for range 500 {
		s := sourceOf(r, randomTree(r, 2))
		if r.IntN(3) == 0 {
			s = s[:r.IntN(len(s)+1)]
		}
		tree, f := Parse([]byte(s))
		first = append(first, answer{s, tree, f, Print(tree)})
	}
	slices.Reverse(first)
	for _, x := range first {
		if tree, f := Parse([]byte(x.text)); f != x.f || !exactly(tree, x.tree) || Print(tree) != x.one {
			t.Fatalf("%q: %v %v, then %v %v", x.text, x.tree, x.f, tree, f)
		}
	}
}

// 0.4, 0.8: what is handed in stays as it is, its spare room too, which plays no part; nothing of it is in the answer.
func TestSourceStays(t *testing.T) {
	r := newRandom(11)
	for range 1000 {
		want := randomTree(r, 2)
		s := sourceOf(r, want)
		src := []byte(s + " x @")
		tree, f := Parse(src[:len(s)])
		if f.Err != api.OK || !exactly(tree, want) || string(src) != s+" x @" {
			t.Fatalf("%q: %v", s, f)
		}
		copy(src, bytes.Repeat([]byte{'#'}, len(src)))
		if !exactly(tree, want) {
			t.Fatalf("%q: the tree changed with the text", s)
		}
	}
}

// 0.4: a tree that is handed in stays as it is.
func TestTreesStay(t *testing.T) {
	r := newRandom(12)
	keep := func(string, reflect.Value) {}
	for range 500 {
		a, b := randomTree(r, 2), randomTree(r, 2)
		sourceOf(r, a)
		was, other := copyOf(a, keep), copyOf(b, keep)
		Print(a)
		Fit(a)
		Same(a, b)
		for _, d := range a.Routes {
			Text(d.Want)
		}
		if !exactly(a, was) || !exactly(b, other) {
			t.Fatalf("%v became %v", was, a)
		}
	}
}

// lists is all lists of an answer, by where their memory begins and how much of it there is, spare room too.
func lists(v reflect.Value, found map[uintptr]uintptr) {
	switch v.Kind() {
	case reflect.Struct:
		for i := range v.NumField() {
			lists(v.Field(i), found)
		}
	case reflect.Slice:
		if v.Cap() > 0 {
			found[v.Pointer()] += uintptr(v.Cap()) * v.Type().Elem().Size()
		}
		for i := range v.Len() {
			lists(v.Index(i), found)
		}
	}
}

// 0.4: no two lists of one answer share memory, nor those of two answers.
func TestListsAreApart(t *testing.T) {
	tree, again := taken(t, full+full), taken(t, full+full)
	w, _ := Want("int | (text & any | !nil) | sized")
	x, _ := Want("int | (text & any | !nil) | sized")
	found := map[uintptr]uintptr{}
	for _, v := range []any{tree, again, w, x} {
		lists(reflect.ValueOf(v), found)
	}
	var begins []uintptr
	for at := range found {
		begins = append(begins, at)
	}
	slices.Sort(begins)
	for i, at := range begins[1:] {
		if begins[i]+found[begins[i]] > at {
			t.Error("two lists share memory")
		}
	}
	if len(begins) < 60 {
		t.Error(len(begins))
	}
}

// A panic that is not the reader's own is no fault of the text.
func TestOtherPanicsGoOn(t *testing.T) {
	for _, p := range []any{"other", 7, errOther{}, []int{1}} {
		func() {
			defer func() {
				if got := recover(); !reflect.DeepEqual(got, p) {
					t.Errorf("%v, not %v", got, p)
				}
			}()
			f := read([]byte("a"), func(*configs) { panic(p) })
			t.Errorf("%v: %v", p, f)
		}()
	}
}

type errOther struct{}

func (errOther) Error() string { return errGivenUp.Error() }

// FuzzParse looks for texts of which the tree, the fault or what follows is not as the chapter has it.
func FuzzParse(f *testing.F) {
	f.Add(full)
	r := newRandom(13)
	for range 40 {
		f.Add(sourceOf(r, randomTree(r, 2)))
	}
	for _, s := range spellings() {
		f.Add("handler a = x " + s)
		f.Add(`route "a" when ` + s + " int")
	}
	f.Fuzz(func(t *testing.T, s string) {
		asked(t, s)
		follows(t, s)
		w, ok := Want(s)
		if ok != (chapterFault(s, "want").Err == api.OK) || ok && Text(w) != chapterText(w) || !ok && !exactly(w, api.Want{}) {
			t.Errorf("%q: %v %v", s, w, ok)
		}
		if back, same := Want(Text(w)); ok && len(Text(w)) <= api.MaxSource && (!same || !exactly(back, w)) {
			t.Errorf("%q: %v", s, back)
		}
	})
}
