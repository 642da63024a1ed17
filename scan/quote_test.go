package scan

import (
	"strings"
	"testing"

	"conduit/api"
)

// P6.3: Quote of each byte, alone and among others.
func TestQuote(t *testing.T) {
	for s, want := range map[string]string{
		"": `""`, "a": `"a"`, " ~": `" ~"`, `"`: `"\""`, `\`: `"\\"`, `\"`: `"\\\""`, "\x1f\x20\x7e\x7f": `"\x1f ~\x7f"`,
		"\n\t\r\x00": `"\x0a\x09\x0d\x00"`, "é": `"\xc3\xa9"`, "\xff\xAB": `"\xff\xab"`, `\x41`: `"\\x41"`, "'/*#": `"'/*#"`,
	} {
		if got := Quote(s); got != want {
			t.Errorf("%q: %s", s, got)
		}
	}
	for b := range 256 {
		for _, s := range []string{string([]byte{byte(b)}), "a" + string([]byte{byte(b)}) + "0"} {
			if got := Quote(s); got != chapterQuote(s) {
				t.Errorf("%q: %s", s, got)
			}
		}
	}
}

// P6.3: Unquote of just one text.
func TestUnquote(t *testing.T) {
	for s, want := range map[string]string{
		`""`: "", `"a"`: "a", `"\""`: `"`, `"\\"`: `\`, `"\x4a\x4A"`: "JJ", `"\xfF"`: "\xff", `" ~"`: " ~", `"\x000"`: "\x000", `"a b"`: "a b", `"#/*"`: "#/*",
	} {
		if got, ok := Unquote(s); !ok || got != want {
			t.Errorf("%s: %q %v", s, got, ok)
		}
	}
}

// P6.3, 0.5: what is no text, two, or one with something ahead or behind: nothing and false.
func TestNoUnquote(t *testing.T) {
	for _, s := range []string{
		"", " ", "a", `"`, `a"`, `"a`, `'a'`, "`a`", `"a""b"`, `"a" "b"`, `"a" `, ` "a"`, `a"a"`, `"a"a`, "\"a\"\n", `"a"#`, `"a"/**/`, `/**/"a"`, `#"a"`, `"a";`, "\x00\"a\"", "\"a\"\x00",
		`"\n"`, `"\x0"`, `"\x"`, `"\xg0"`, `"\x0g"`, `"\"`, `"\\\"`, `\"a\"`, "\"\n\"", "\"\x1f\"", "\"\x7f\"", "\"\xff\"", `"\u0041"`, `"\X41"`, `"""`, `""""`, "with", "0", "\\",
	} {
		if got, ok := Unquote(s); ok || got != "" {
			t.Errorf("%q: %q %v", s, got, ok)
		}
	}
}

// P6.3: Unquote takes a text just if it is one token of a text, from end to end.
func TestUnquoteIsOneToken(t *testing.T) {
	r := newRandom(2)
	yes := 0
	for range 60000 {
		s := `"` + randomBytes(r, 5) + `"`
		if r.IntN(4) == 0 {
			s = mixed(r, 3)
		}
		want, is := "", shapeText.FindString(s) == s && s != ""
		if is {
			want = chapterSays(s)
			yes++
		}
		if got, ok := Unquote(s); ok != is || got != want {
			t.Fatalf("%q: %q %v", s, got, ok)
		}
	}
	if yes < 1000 {
		t.Error(yes)
	}
}

// P6.7: there and back, with bytes from 32 to 126 alone.
func TestThereAndBack(t *testing.T) {
	r := newRandom(3)
	l := []string{"", strings.Repeat("\x00", 70000), strings.Repeat("a", 200000), strings.Repeat(`"\`, 40000)}
	for b := range 256 {
		for c := range 256 {
			l = append(l, string([]byte{byte(b), byte(c)}))
		}
	}
	for range 20000 {
		l = append(l, randomBytes(r, 20))
	}
	for _, s := range l {
		q := Quote(s)
		if back, ok := Unquote(q); !ok || back != s {
			t.Fatalf("%.80q: %.80q %v", s, back, ok)
		}
		for i := range len(q) {
			if q[i] < 32 || q[i] > 126 {
				t.Fatalf("%.80q: byte %d of %.80q", s, i, q)
			}
		}
		if len(q) < 60000 {
			taken(t, q, api.Token{Kind: api.TokText, Pos: 0, End: len(q), Text: s})
		}
	}
}
