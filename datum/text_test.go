package datum

import (
	"fmt"
	"strings"
	"testing"

	"conduit/api"
)

// P1.8, Print and Parse both ways, and the chapter's example 5.
func TestTexts(t *testing.T) {
	for _, c := range []struct {
		d api.Datum
		s string
	}{
		{dNil, "nil"}, {dInt(0), "0"}, {dInt(10), "10"}, {dInt(-1), "-1"}, {dInt(greatest), "9223372036854775807"}, {dInt(least), "-9223372036854775808"},
		{dKey(0), "#0"}, {dKey(-12), "#-12"}, {dKey(least), "#-9223372036854775808"},
		{dFloat(0), "f0000000000000000"}, {dFloat(minus0), "f8000000000000000"}, {dFloat(nan), "f7ff8000000000001"}, {dFloat(0x7ff0000000000001), "f7ff0000000000001"}, {dFloat(0x0123456789abcdef), "f0123456789abcdef"}, {dFloat(1<<64 - 1), "fffffffffffffffff"}, {dFloat(0xfa15e00000000000), "ffa15e00000000000"},
		{dText(""), `""`}, {dText("a b"), `"a b"`}, {dName(""), `@""`}, {dName("\\"), `@"\\"`}, {dTrue, "true"}, {dFalse, "false"},
		{dBytes(""), "%"}, {dBytes("\x00\xff"), "%00ff"}, {dBytes("\x9a"), "%9a"}, {dBytes("\"a"), "%2261"},
		{dList(), "[]"}, {dList(dNil), "[nil]"}, {dList(dInt(1), dInt(2), dList()), "[1, 2, []]"}, {dPair(dInt(1), dKey(2)), "(1, #2)"}, {dList(dBytes(""), dBytes("")), "[%, %]"},
		{dErr(0, ""), `!0""`}, {dErr(-7, "x"), `!-7"x"`}, {dErr(least, "\n"), `!-9223372036854775808"\x0a"`}, {dPtr(1, dNil), "&1(nil)"}, {dPtr(greatest, dPtr(1, dUnit)), "&9223372036854775807(&1({}))"}, {dNoPtr, "&nil"}, {dUnit, "{}"},
		{dPtr(1, dNoPtr), "&1(&nil)"}, {dPtr(1, dPair(dInt(1), dInt(2))), "&1((1, 2))"}, {dList(dPtr(1, dInt(1)), dPtr(1, dInt(2))), "[&1(1), &1(2)]"}, {dPtr(1, dPtr(1, dInt(2))), "&1(&1(2))"},
		{dPair(dList(dNil, dBytes("\x00\xff")), dText("\"\n")), `([nil, %00ff], "\"\x0a")`},
	} {
		if s := Print(c.d); s != c.s {
			t.Errorf("Print: %s, not %s", s, c.s)
		}
		if d, e := Parse(c.s); e != api.OK || !Same(d, c.d) {
			t.Errorf("Parse(%s): %v, %v", c.s, d, e)
		}
	}
}

func TestQuotedBytes(t *testing.T) {
	for c := range 256 {
		one := string([]byte{byte(c)})
		want := one
		if c == 34 || c == 92 {
			want = "\\" + one
		} else if c < 32 || c > 126 {
			want = fmt.Sprintf("\\x%02x", c)
		}
		for _, form := range []string{want, one, "\\" + one, fmt.Sprintf("\\x%02x", c), fmt.Sprintf("\\x%02X", c)} {
			for mark, kind := range map[string]int{"": api.KText, "@": api.KName, "!0": api.KErr} {
				s := mark + "\"" + form + "\""
				d, e := Parse(s)
				if form != want {
					if e == api.OK && Print(d) != s {
						t.Errorf("Parse(%q): %v", s, d)
					}
					continue
				}
				if e != api.OK || !Same(d, api.Datum{Kind: kind, Text: one}) || Print(d) != s {
					t.Errorf("Parse(%q): %v, %v", s, d, e)
				}
			}
		}
		if form := fmt.Sprintf("\"\\x%02x\"", c); c >= 32 && c <= 126 {
			if _, e := Parse(form); e != api.ErrDatum {
				t.Errorf("Parse(%s): %v", form, e)
			}
		}
		if s := fmt.Sprintf("%%%02x", c); Print(dBytes(one)) != s || !Same(read(t, s), dBytes(one)) {
			t.Errorf("byte %d", c)
		}
	}
}

func TestParseNone(t *testing.T) {
	for _, s := range []string{
		"", " ", "01", " 1", "1 ", "-0", "+1", "-", "--1", "1-", "00", "-01", "1_0", "0x1", "1.0", "1e3", "９", "9223372036854775808", "-9223372036854775809", "99999999999999999999999",
		"#", "#01", "#-0", "# 1", "##1", "#nil", "f", "f7FF", "f7FF8000000000001", "f7ff800000000000", "f7ff80000000000010", "f 7ff8000000000001", "f7ff800000000000g", "F7ff8000000000001", "f-ff8000000000001",
		"nul", "ni", "nil ", "nill", "NIL", "nilnil", "tru", "True", "truee", "fals", "falsef", "false0000000000000", "falsey", "{", "}", "{ }", "{}{}",
		"\"", "\"a", "a\"", "\"a\"b", "\"\"\"", "\"\\\"", "\"\\n\"", "\"\\x4\"", "\"\\x\"", "\"\\x0A\"", "\"\\x41\"", "\"\\x22\"", "\"\\x5c\"", "\"\\X0a\"", "\"\n\"", "\"\x7f\"", "\"\x80\"", "\"é\"", "\"\\'\"", "'a'", "`a`",
		"@", "@a", "@ \"a\"", "@@\"a\"", "@\"a", "%0", "%000", "%0g", "%FF", "% 00", "%00 ff", "%%", "%-1",
		"[", "]", "[1", "1]", "[1,2]", "[1,  2]", "[1 ,2]", "[ 1]", "[1 ]", "[,]", "[, 1]", "[1, ]", "[1,]", "[1 2]", "[]]", "[[]", "[)", "(]", "[01]", "[nil, 0x]",
		"(", ")", "()", "(1)", "(1, 2", "(1,2)", "(1, 2, 3)", "(1, )", "(, 2)", "( 1, 2)", "(1, 2))", "((1, 2)", "(1, 2]", "[1, 2)",
		"!", "!5", "!\"a\"", "!05\"a\"", "!-0\"\"", "!5 \"a\"", "!5\"a", "!5@\"a\"", "!!5\"a\"", "!9223372036854775808\"\"",
		"&", "&0(1)", "&-1(1)", "&01(1)", "&1", "&1()", "&1(1, 2)", "&1 (1)", "&1(1", "&1(1))", "&(1)", "& nil", "&nil(1)", "&nill", "&nil()", "&1[1]", "&9223372036854775808(1)", "&&nil", "&+1(1)",
		"\x00", "\xff", "nil\n", "\tnil", "*", "$", "-nil", "a", "ffffffffffffffffg",
	} {
		if d, e := Parse(s); e != api.ErrDatum || !Same(d, dNil) {
			t.Errorf("Parse(%q): %v, %v", s, d, e)
		}
	}
}

func TestParseLimits(t *testing.T) {
	lists := func(n int) string { return strings.Repeat("[", n) + strings.Repeat("]", n) }
	items := func(n int) string { return "[" + strings.TrimSuffix(strings.Repeat("0, ", n), ", ") + "]" }
	pointers := func(n int) string { return strings.Repeat("&1(", n-1) + "nil" + strings.Repeat(")", n-1) }
	pairs := func(n int) string { return strings.Repeat("(nil, ", n-1) + "nil" + strings.Repeat(")", n-1) }
	for _, c := range []struct {
		form func(int) string
		most int
	}{
		{lists, api.MaxDeep}, {pointers, api.MaxDeep}, {pairs, api.MaxDeep},
		{items, api.MaxItems - 1}, {func(n int) string { return "(" + items(n) + ", " + items(2000) + ")" }, api.MaxItems - 2003},
		{func(n int) string { return "\"" + strings.Repeat("x", n) + "\"" }, api.MaxBytes}, {func(n int) string { return "@\"" + strings.Repeat("\\x00", n) + "\"" }, api.MaxBytes},
		{func(n int) string { return "!1\"" + strings.Repeat("\\\"", n) + "\"" }, api.MaxBytes}, {func(n int) string { return "%" + strings.Repeat("ab", n) }, api.MaxBytes},
	} {
		s := c.form(c.most)
		if d, e := Parse(s); e != api.OK || !Valid(d) || Print(d) != s {
			t.Errorf("%s: %v", short(s), e)
		}
		for _, n := range []int{c.most + 1, c.most + 2, c.most + 100000} {
			if d, e := Parse(c.form(n)); e != api.ErrDatum || !Same(d, dNil) {
				t.Errorf("%s with %d: %v", short(s), n, e)
			}
		}
	}
	for _, s := range []string{"[", "(", "&1(", "[nil, ", "\"", "%00", "-", "9", "[[], "} {
		if _, e := Parse(strings.Repeat(s, 1<<20)); e != api.ErrDatum {
			t.Errorf("%s over and over: %v", s, e)
		}
	}
}

// Every short text over the marks: what Parse takes, Print writes so.
func TestParseShortTexts(t *testing.T) {
	const marks = "0129-#f\"\\x@%[](), !&{}niltruea"
	taken := map[string]bool{}
	var try func(s string, left int)
	try = func(s string, left int) {
		if d, e := Parse(s); e == api.OK {
			if !Valid(d) || Print(d) != s {
				t.Errorf("Parse(%q): %v", s, d)
			}
			taken[s] = true
		} else if e != api.ErrDatum || !Same(d, dNil) {
			t.Errorf("Parse(%q): %v, %v", s, d, e)
		}
		if left > 0 {
			for _, c := range []byte(marks) {
				try(s+string(rune(c)), left-1)
			}
		}
	}
	try("", 4)
	for _, s := range []string{"nil", "0", "-129", "#-1", "#20", `""`, `"0"`, `"\""`, `"\\"`, `@"x"`, "%", "%0f", "[]", "[0]", "[%]", "[{}]", "{}", `!0""`, "&nil", "true"} {
		if !taken[s] {
			t.Errorf("%s was not taken", s)
		}
	}
}

// P1.11
func TestThereAndBack(t *testing.T) {
	r := newRandom(11)
	known := map[string]api.Datum{}
	for range 30000 {
		d := r.value(1 + r.IntN(5))
		s := Print(d)
		if back, e := Parse(s); e != api.OK || !Same(back, d) || !Valid(back) {
			t.Fatalf("%s: %v, %v", s, back, e)
		}
		if other, ok := known[s]; ok && !Same(other, d) {
			t.Fatalf("%v and %v are both %s", d, other, s)
		}
		known[s] = d
	}
}

// One byte of a value's text more, less, or other: what Parse takes then is written so.
func TestParseSpoiltTexts(t *testing.T) {
	r := newRandom(8)
	for range 30000 {
		b := []byte(Print(r.value(4)))
		at := r.IntN(len(b))
		c := pick(r, []byte("0159-#faA\"\\x@%[](), !&{}nl\x00\x7f\xff")...)
		var s string
		switch r.IntN(4) {
		case 0:
			s = string(b[:at]) + string(b[at+1:])
		case 1:
			s = string(b[:at]) + string([]byte{c}) + string(b[at:])
		case 2:
			s = string(b[:at])
		case 3:
			b[at] = c
			s = string(b)
		}
		if d, e := Parse(s); e == api.OK && (!Valid(d) || Print(d) != s) || e != api.OK && (e != api.ErrDatum || !Same(d, dNil)) {
			t.Fatalf("Parse(%q): %v, %v", s, d, e)
		}
	}
}

func FuzzParse(f *testing.F) {
	for _, d := range oneOfEach() {
		f.Add(Print(dPair(d, dList(d, dPtr(1, d)))))
	}
	f.Fuzz(func(t *testing.T, s string) {
		if d, e := Parse(s); e == api.OK && (!Valid(d) || Print(d) != s) || e != api.OK && (e != api.ErrDatum || !Same(d, dNil)) {
			t.Fatalf("Parse(%q): %v, %v", s, d, e)
		}
	})
}
