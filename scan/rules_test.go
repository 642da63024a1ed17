package scan

import (
	"bytes"
	"slices"
	"strings"
	"testing"

	"conduit/api"
)

// P6.5: tokens rise, do not overlap, and what lies around them is gaps alone.
func TestBetweenTokens(t *testing.T) {
	r := newRandom(5)
	found := 0
	for range 40000 {
		s := mixed(r, 8)
		l, f := Scan([]byte(s))
		if f.Err != api.OK {
			continue
		}
		at := 0
		for _, x := range append(l, api.Token{Pos: len(s), End: len(s) + 1}) {
			if x.Pos < at || x.End <= x.Pos {
				t.Fatalf("%q: %v", s, l)
			}
			for gap := s[at:x.Pos]; gap != ""; {
				n := len(shapeGap.FindString(gap))
				if n == 0 {
					t.Fatalf("%q: %q ahead of %d", s, gap, x.Pos)
				}
				gap = gap[n:]
			}
			at = x.End
		}
		found += len(l)
	}
	if found < 10000 {
		t.Error(found)
	}
}

// P6.5, 0.6: numbers and texts alone say something.
func TestOtherFieldsAreZero(t *testing.T) {
	for _, s := range tokensOnly() {
		l, _ := Scan([]byte(s))
		if l[0].Kind != api.TokNum && l[0].Num != 0 || l[0].Kind != api.TokText && l[0].Text != "" {
			t.Errorf("%q: %v", s, l)
		}
	}
}

// P6.6: tokens' own bytes with a blank between are the same tokens.
func TestBlanksBetween(t *testing.T) {
	r := newRandom(6)
	blanks := []string{" ", "\t", "\r", "\n"}
	same := func(s, blank string) int {
		l, f := Scan([]byte(s))
		if f.Err != api.OK {
			return 0
		}
		var own []string
		for _, x := range l {
			own = append(own, s[x.Pos:x.End])
		}
		apart := strings.Join(own, blank)
		again, f := Scan([]byte(apart))
		if f.Err != api.OK || len(again) != len(l) {
			t.Fatalf("%q, %q: %v %v", s, apart, again, f)
		}
		at := 0
		for i, x := range again {
			want := l[i]
			want.Pos, want.End = at, at+len(own[i])
			if x != want {
				t.Fatalf("%q, %q: %v, not %v", s, apart, x, want)
			}
			at = want.End + 1
		}
		return len(l)
	}
	found := 0
	for range 40000 {
		found += same(mixed(r, 8), blanks[r.IntN(4)])
	}
	for range 2000 {
		found += same(strings.Join(slices.Repeat(tokensOnly(), 2), " "), blanks[r.IntN(4)])
	}
	if found < 10000 {
		t.Error(found)
	}
	same(strings.Repeat(";", 16384), " ")
}

// 0.3: the same again, whatever was asked in between.
func TestSameAgain(t *testing.T) {
	r := newRandom(7)
	var texts []string
	for range 500 {
		texts = append(texts, mixed(r, 8))
	}
	type answer struct {
		l []api.Token
		f api.Fault
	}
	var first []answer
	for _, s := range texts {
		l, f := Scan([]byte(s))
		first = append(first, answer{l, f})
	}
	slices.Reverse(texts)
	slices.Reverse(first)
	for i, s := range texts {
		if l, f := Scan([]byte(s)); f != first[i].f || !slices.Equal(l, first[i].l) {
			t.Fatalf("%q: %v %v, then %v %v", s, first[i].l, first[i].f, l, f)
		}
	}
}

// 0.4, 0.8: what is handed in stays as it is, its spare room too, and plays no part beyond its length.
func TestSourceStays(t *testing.T) {
	r := newRandom(8)
	for range 3000 {
		s, spare := mixed(r, 8), mixed(r, 3)+`"*/ x`
		src := []byte(s + spare)
		want, wrong := Scan([]byte(s))
		got, f := Scan(src[:len(s)])
		line, column := Line(src[:len(s)], len(s)+1)
		wantLine, wantColumn := Line([]byte(s), len(s))
		if f != wrong || !slices.Equal(got, want) || line != wantLine || column != wantColumn {
			t.Fatalf("%q with %q behind: %v %v", s, spare, got, f)
		}
		if string(src) != s+spare {
			t.Fatalf("%q became %q", s+spare, src)
		}
	}
}

// 0.4: nothing of what was handed in is kept in the answer, and nothing of one answer is in another.
func TestTokensAreNew(t *testing.T) {
	src := []byte(`handler "abc" x1 17 "\x41b" -> ; `)
	l, _ := Scan(src)
	want := slices.Clone(l)
	copy(src, bytes.Repeat([]byte{'#'}, len(src)))
	if !slices.Equal(l, want) || l[1].Text != "abc" {
		t.Error(l)
	}
	again, _ := Scan([]byte(`handler "abc" x1 17 "\x41b" -> ; `))
	for i := range l[:cap(l)] {
		l[:cap(l)][i] = api.Token{Kind: -77}
	}
	if !slices.Equal(again, want) {
		t.Error(again)
	}
	if third, _ := Scan([]byte(`handler "abc" x1 17 "\x41b" -> ; `)); !slices.Equal(third, want) {
		t.Error(third)
	}
}

// FuzzScan looks for texts of which tokens, faults or what follows are not as the chapter has them.
func FuzzScan(f *testing.F) {
	for _, s := range pieces() {
		f.Add(s)
	}
	f.Add("handler a1=echo#x\n->-\"a\\\"\\\\\\x0A\" 120ab /*with*/with")
	f.Fuzz(func(t *testing.T, s string) {
		asked(t, s)
		if q := Quote(s); q != chapterQuote(s) {
			t.Errorf("%q: %s", s, q)
		} else if back, ok := Unquote(q); !ok || back != s {
			t.Errorf("%q: %q %v", s, back, ok)
		}
		want, is := "", s != "" && shapeText.FindString(s) == s
		if is {
			want = chapterSays(s)
		}
		if got, ok := Unquote(s); ok != is || got != want {
			t.Errorf("%q: %q %v", s, got, ok)
		}
	})
}
