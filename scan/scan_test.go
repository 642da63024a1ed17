package scan

import (
	"math"
	"strings"
	"testing"

	"conduit/api"
)

// P6.1: gaps alone are no tokens.
func TestGapsAlone(t *testing.T) {
	for _, s := range []string{"", " ", "\t", "\r", "\n", " \t\r\n", "#", "# x", "#\n", "# \"\n", "#/*\n", "# #\n#", "/**/", "/***/", "/* x */", "/*/*/", "/* /* */", "/*\n#*/", "/**//**/", "/**/#", "#\xff\x00\n"} {
		taken(t, s)
	}
	if l, f := Scan(nil); len(l) != 0 || f != (api.Fault{}) {
		t.Error(l, f)
	}
	for b := range 256 {
		l, f := asked(t, string([]byte{byte(b)}))
		if blank := b == 32 || b == 9 || b == 13 || b == 10; (blank || b == '#') != (len(l) == 0 && f.Err == api.OK) {
			t.Errorf("byte %d: %v %v", b, l, f)
		}
		if b != '*' && b != '/' {
			taken(t, "/*"+string([]byte{byte(b)})+"*/;", spelled(api.TokSemi, 5))
		}
		if b != '\n' {
			taken(t, "#"+string([]byte{byte(b)})+"\n;", spelled(api.TokSemi, 3))
		}
	}
}

// P6.1: where comments end.
func TestComments(t *testing.T) {
	taken(t, "a# b\nc", name(0, 1), name(5, 6))
	taken(t, "a# b\rc", name(0, 1))
	taken(t, "a#", name(0, 1))
	taken(t, "a#\n", name(0, 1))
	taken(t, "a#/*\nb", name(0, 1), name(5, 6))
	taken(t, "a/*#*/b", name(0, 1), name(6, 7))
	taken(t, "a/*\n*/b", name(0, 1), name(6, 7))
	taken(t, "a/**/b/**/", name(0, 1), name(5, 6))
	taken(t, "a/*/**/-", name(0, 1), spelled(api.TokMinus, 7))
}

// P6.1: which bytes begin something.
func TestFirstBytes(t *testing.T) {
	begins := "abcdefghijklmnopqrstuvwxyzABCDEFGHIJKLMNOPQRSTUVWXYZ_0123456789\" \t\r\n#!&(),-:;=|"
	for b := range 256 {
		s := string([]byte{byte(b)})
		_, f := asked(t, s)
		if strings.Contains(begins, s) == (f.Err == api.ErrByte) {
			t.Errorf("byte %d: %v", b, f)
		}
		asked(t, "a "+s+" b")
		asked(t, "a"+s)
		asked(t, s+"a")
		asked(t, "7"+s)
		asked(t, s+"7")
		asked(t, "-"+s)
		asked(t, s+"-")
	}
}

// P6.1: a byte with which nothing begins.
func TestBytes(t *testing.T) {
	for _, s := range []string{"/", "//", "/ *", "*/", "*", "@", "$", "{", "<", ">", "'x'", "\\", "\x00", "\x0b", "\x0c", "\x7f", "\x80", "\xc3\xa9", "\u00a0", "+", ".", "?"} {
		refused(t, s, 0, api.ErrByte)
		refused(t, "a "+s, 2, api.ErrByte)
		refused(t, "->"+s, 2, api.ErrByte)
	}
	refused(t, "/**/*/", 4, api.ErrByte)
	refused(t, "a/b", 1, api.ErrByte)
	refused(t, "/#", 0, api.ErrByte)
	refused(t, ">-", 0, api.ErrByte)
}

// P6.1: a comment that does not end.
func TestEndless(t *testing.T) {
	for _, s := range []string{"/*", "/* ", "/*/", "/**", "/* *", "/* * /", "/*\n", "/*/*", "/*#\n", "/* \"*\" ", "/* " + strings.Repeat("*", 1000)} {
		refused(t, s, 0, api.ErrComment)
		refused(t, "\n"+s, 1, api.ErrComment)
		refused(t, "a"+s, 1, api.ErrComment)
		refused(t, "/**/"+s, 4, api.ErrComment)
		refused(t, "#\n"+s, 2, api.ErrComment)
		taken(t, "#"+strings.ReplaceAll(s, "\n", ""))
		taken(t, s+"*/;", spelled(api.TokSemi, len(s)+2))
	}
}

// P6.1: words, and names of at most MaxName bytes.
func TestWords(t *testing.T) {
	for i, s := range chapterWords() {
		taken(t, s, api.Token{Kind: api.TokAfter + i, Pos: 0, End: len(s)})
		for _, other := range []string{s + "s", s + "_", s + "0", "_" + s, strings.ToUpper(s), s[:1], s + s, strings.ToUpper(s[:1]) + s[1:]} {
			taken(t, other, name(0, len(other)))
		}
		taken(t, "0"+s, num(0, 1, 0), api.Token{Kind: api.TokAfter + i, Pos: 1, End: 1 + len(s)})
	}
	for _, s := range []string{"a", "Z", "_", "a_Z9", "__", "x" + strings.Repeat("9", 31), strings.Repeat("_", 32), strings.Repeat("of", 16)} {
		taken(t, s, name(0, len(s)))
	}
	for _, s := range []string{strings.Repeat("x", 33), strings.Repeat("x", 32) + "_", strings.Repeat("x", 32) + "0", strings.Repeat("with", 9), "_" + strings.Repeat("1", 60000)} {
		refused(t, s, 0, api.ErrWord)
		refused(t, "a; "+s+" 01", 3, api.ErrWord)
	}
	taken(t, strings.Repeat("x", 32)+"-"+strings.Repeat("y", 32), name(0, 32), spelled(api.TokMinus, 32), name(33, 65))
}

// P6.1: numbers.
func TestNumbers(t *testing.T) {
	for s, n := range map[string]uint64{"0": 0, "1": 1, "9": 9, "10": 10, "100": 100, "4294967296": 1 << 32, "9223372036854775808": 1 << 63, "18446744073709551615": math.MaxUint64, "18446744073709551614": math.MaxUint64 - 1} {
		taken(t, s, num(0, len(s), n))
		taken(t, "-"+s+"a", spelled(api.TokMinus, 0), num(1, 1+len(s), n), name(1+len(s), 2+len(s)))
	}
	for _, s := range []string{"00", "01", "007", "000", "00000000000000000000001", "18446744073709551616", "18446744073709551620", "20000000000000000000", "99999999999999999999", "100000000000000000000", "1" + strings.Repeat("0", 60000), "0" + strings.Repeat("0", 60000), "36893488147419103232"} {
		refused(t, s, 0, api.ErrInt)
		refused(t, "x "+s+" /", 2, api.ErrInt)
	}
	taken(t, "0x10", num(0, 1, 0), name(1, 4))
	taken(t, "1_000", num(0, 1, 1), name(1, 5))
	taken(t, "0 0", num(0, 1, 0), num(2, 3, 0))
	taken(t, "0-1", num(0, 1, 0), spelled(api.TokMinus, 1), num(2, 3, 1))
	refused(t, "1.5", 1, api.ErrByte)
}

// P6.1: what a text says, byte by byte.
func TestTextsSay(t *testing.T) {
	for b := range 256 {
		one := string([]byte{byte(b)})
		switch {
		case b == '"':
			refused(t, `"`+one+`"`, 2, api.ErrText)
		case b == '\\' || b < 32 || b > 126:
			refused(t, ` "`+one+`"`, 1, api.ErrText)
			refused(t, ` "x`+one+`x"`, 1, api.ErrText)
		default:
			taken(t, `"`+one+`"`, said(0, 3, one))
		}
		if b != '"' && b != '\\' {
			refused(t, `"\`+one+`"`, 0, api.ErrText)
		}
		if b != '"' && b != '\\' && b != 'x' {
			refused(t, `"\`+one+`00"`, 0, api.ErrText)
		}
	}
}

// P6.1: the escapes of a text.
func TestEscapes(t *testing.T) {
	taken(t, `""`, said(0, 2, ""))
	taken(t, `"\""`, said(0, 4, `"`))
	taken(t, `"\\"`, said(0, 4, `\`))
	taken(t, `"\\x41"`, said(0, 7, `\x41`))
	taken(t, `"\x410"`, said(0, 7, "A0"))
	taken(t, `"\x4a\x4A"`, said(0, 10, "JJ"))
	taken(t, `"a""b"`, said(0, 3, "a"), said(3, 6, "b"))
	taken(t, `"/*"`, said(0, 4, "/*"))
	taken(t, `"#"`, said(0, 3, "#"))
	for hi := range 256 {
		for lo := range 256 {
			asked(t, `"\x`+string([]byte{byte(hi), byte(lo)})+`"`)
		}
	}
}

// P6.1: a text that may not be, or does not end.
func TestNoTexts(t *testing.T) {
	for _, s := range []string{`"`, `"a`, `"\`, `"\"`, `"\\\"`, `"\x`, `"\x"`, `"\x4`, `"\x4"`, `"\x4g"`, `"\xg4"`, `"\x 4"`, `"\X41"`, `"\n"`, `"\t"`, `"\0"`, `"\101"`, `"\u0041"`, `"\'"`, "\"\n", "\"a\nb\"", "\"\t\"", "\"\x1f\"", "\"\x7f\"", "\"\x80\"", "\"é\"", "\"\\\n\"", `"` + strings.Repeat("a", 65000)} {
		refused(t, s, 0, api.ErrText)
		refused(t, "of "+s, 3, api.ErrText)
		refused(t, `"x"`+s, 3, api.ErrText)
	}
	taken(t, "\"\x20\x7e\"", said(0, 4, " ~"))
}

// P6.1: marks, the longest that stands there.
func TestMarks(t *testing.T) {
	for i, s := range chapterMarks() {
		taken(t, s, api.Token{Kind: api.TokNot + i, Pos: 0, End: len(s)})
		taken(t, s+s, api.Token{Kind: api.TokNot + i, Pos: 0, End: len(s)}, api.Token{Kind: api.TokNot + i, Pos: len(s), End: 2 * len(s)})
		for _, other := range chapterMarks() {
			asked(t, s+other)
			asked(t, s+" "+other)
		}
	}
	taken(t, "->", spelled(api.TokArrow, 0))
	taken(t, "--", spelled(api.TokMinus, 0), spelled(api.TokMinus, 1))
	taken(t, "-->", spelled(api.TokMinus, 0), spelled(api.TokArrow, 1))
	taken(t, "-", spelled(api.TokMinus, 0))
	refused(t, "- >", 2, api.ErrByte)
	refused(t, "->>", 2, api.ErrByte)
	refused(t, "-/**/>", 5, api.ErrByte)
}

// P6.1: MaxSource bytes, and one more.
func TestLong(t *testing.T) {
	for _, s := range []string{" ", "#", "a ", "\xff", "/", `"`, "0"} {
		long := strings.Repeat(s, 65537)[:65537]
		refused(t, long, 0, api.ErrLong)
		if _, f := Scan([]byte(long[1:])); f.Err == api.ErrLong {
			t.Errorf("%q: %v", s, f)
		}
	}
	taken(t, strings.Repeat(" ", 65536))
	taken(t, strings.Repeat(" ", 65535)+";", spelled(api.TokSemi, 65535))
	taken(t, "#"+strings.Repeat("x", 65535))
	taken(t, "/*"+strings.Repeat("*", 65532)+"*/")
	taken(t, `"`+strings.Repeat("z", 65534)+`"`, said(0, 65536, strings.Repeat("z", 65534)))
	refused(t, strings.Repeat("x", 1000000), 0, api.ErrLong)
}

// P6.1: MaxTokens tokens, and one more.
func TestTokens(t *testing.T) {
	full := strings.Repeat(";", 16384)
	for _, behind := range []string{"", " ", "\n", "#", "# x", "/* */", " #\n "} {
		if l, f := asked(t, full+behind); len(l) != 16384 || f.Err != api.OK {
			t.Errorf("%q: %d %v", behind, len(l), f)
		}
		for _, s := range append(tokensOnly(), "01", strings.Repeat("x", 33), `"`, `"\n"`, "99999999999999999999", "; /", "; /*", ";;") {
			if strings.HasPrefix(behind, "#") && !strings.Contains(behind, "\n") {
				continue
			}
			refused(t, full+behind+s, 16384+len(behind), api.ErrTokens)
		}
		if behind != "#" && behind != "# x" {
			refused(t, full+behind+"/", 16384+len(behind), api.ErrByte)
			refused(t, full+behind+"@;", 16384+len(behind), api.ErrByte)
			refused(t, full+behind+"/*;", 16384+len(behind), api.ErrComment)
		}
	}
	refused(t, strings.Repeat("a ", 16385), 32768, api.ErrTokens)
	refused(t, strings.Repeat(";", 65536), 16384, api.ErrTokens)
	refused(t, full[1:]+"01"+";", 16383, api.ErrInt)
	refused(t, strings.Repeat(";", 65537), 0, api.ErrLong)
}

// P6.1, 0.2: the fault that is come to first, from left to right.
func TestFirstFault(t *testing.T) {
	faults := map[string]api.Errno{"/*": api.ErrComment, "/": api.ErrByte, "@": api.ErrByte, strings.Repeat("n", 33): api.ErrWord, "01": api.ErrInt, `"\n"`: api.ErrText, `"`: api.ErrText}
	for one, e := range faults {
		for other := range faults {
			if one != `"` { // which another one would end
				refused(t, "a\n"+one+" "+other, 2, e)
			}
			refused(t, "#"+one+"\n"+other, len(one)+2, faults[other])
			refused(t, "/*"+one+"*/"+other, len(one)+4, faults[other])
		}
	}
}

// P6.1 of random texts, as the shapes have it.
func TestRandomTexts(t *testing.T) {
	r := newRandom(1)
	counts := map[api.Errno]int{}
	for range 60000 {
		_, f := asked(t, mixed(r, 6))
		counts[f.Err]++
	}
	for range 30000 {
		_, f := asked(t, randomBytes(r, 12))
		counts[f.Err]++
	}
	for range 30000 {
		asked(t, `"`+randomBytes(r, 8)+`"`)
	}
	for _, e := range []api.Errno{api.OK, api.ErrByte, api.ErrComment, api.ErrWord, api.ErrInt, api.ErrText} {
		if counts[e] < 500 {
			t.Errorf("only %d texts answered %d", counts[e], e)
		}
	}
}
