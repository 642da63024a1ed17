package scan

import (
	"fmt"
	"math/big"
	"math/rand/v2"
	"regexp"
	"slices"
	"strconv"
	"strings"
	"testing"

	"conduit/api"
)

// chapterWords and chapterMarks are the lists as the chapter has them.
func chapterWords() []string {
	return strings.Split("after, caps, drop, else, handler, inbox, of, open, route, when, with", ", ")
}

func chapterMarks() []string {
	return strings.Fields("!  &  (  )  ,  -  ->  :  ;  =  |")
}

// The shapes of what stands in a text, each said once and by itself.
var (
	shapeGap  = regexp.MustCompile(`^([ \t\r\n]|#[^\n]*|/\*(?s:.*?)\*/)`)
	shapeWord = regexp.MustCompile(`^[a-zA-Z_][a-zA-Z0-9_]*`)
	shapeNum  = regexp.MustCompile(`^[0-9]+`)
	shapeText = regexp.MustCompile(`^"(\\["\\]|\\x[0-9a-fA-F]{2}|[ !#-\[\]-~])*"`)
	shapeMark = regexp.MustCompile(`^(->|[!&(),:;=|-])`)
)

// chapterScan is P6.1 by these shapes.
func chapterScan(s string) ([]api.Token, api.Fault) {
	if len(s) > 65536 {
		return nil, api.Fault{Pos: 0, Err: api.ErrLong}
	}
	var l []api.Token
	for at := 0; at < len(s); {
		rest := s[at:]
		if gap := shapeGap.FindString(rest); gap != "" {
			at += len(gap)
			continue
		}
		t, e := chapterToken(rest)
		switch {
		case strings.HasPrefix(rest, "/*"):
			e = api.ErrComment
		case e != api.ErrByte && len(l) == 16384:
			e = api.ErrTokens
		}
		if e != api.OK {
			return nil, api.Fault{Pos: at, Err: e}
		}
		t.Pos, t.End = at, at+t.End
		l = append(l, t)
		at = t.End
	}
	return l, api.Fault{}
}

// chapterToken is the token that s begins with; its End is its length.
func chapterToken(s string) (api.Token, api.Errno) {
	word, num, text, mark := shapeWord.FindString(s), shapeNum.FindString(s), shapeText.FindString(s), shapeMark.FindString(s)
	switch {
	case word != "":
		return chapterWord(word)
	case num != "":
		n, _ := new(big.Int).SetString(num, 10)
		if n.String() != num || n.BitLen() > 64 {
			return api.Token{}, api.ErrInt
		}
		return api.Token{Kind: 2, End: len(num), Num: n.Uint64()}, api.OK
	case text != "":
		return api.Token{Kind: 3, End: len(text), Text: chapterSays(text)}, api.OK
	case s[0] == '"':
		return api.Token{}, api.ErrText
	case mark != "":
		return api.Token{Kind: 15 + slices.Index(chapterMarks(), mark), End: len(mark)}, api.OK
	}
	return api.Token{}, api.ErrByte
}

func chapterWord(word string) (api.Token, api.Errno) {
	if i := slices.Index(chapterWords(), word); i >= 0 {
		return api.Token{Kind: 4 + i, End: len(word)}, api.OK
	}
	if len(word) > 32 {
		return api.Token{}, api.ErrWord
	}
	return api.Token{Kind: 1, End: len(word)}, api.OK
}

// chapterSays is what a text says, of one that is known to be one. The library's way of reading is the same as far as these escapes go.
func chapterSays(text string) string {
	s, err := strconv.Unquote(text)
	if err != nil {
		panic(err)
	}
	return s
}

// chapterQuote is P6.3's Quote.
func chapterQuote(s string) string {
	out := `"`
	for i := range len(s) {
		switch {
		case s[i] == 34:
			out += `\"`
		case s[i] == 92:
			out += `\\`
		case s[i] < 32 || s[i] > 126:
			out += fmt.Sprintf(`\x%02x`, s[i])
		default:
			out += s[i : i+1]
		}
	}
	return out + `"`
}

// asked is what Scan answers, held against the shapes.
func asked(t *testing.T, s string) ([]api.Token, api.Fault) {
	t.Helper()
	l, f := Scan([]byte(s))
	want, wrong := chapterScan(s)
	if f != wrong || !slices.Equal(l, want) {
		t.Fatalf("%.200q: %v %v, not %v %v", s, l, f, want, wrong)
	}
	return l, f
}

// refused asks for this fault, and no tokens.
func refused(t *testing.T, s string, pos int, e api.Errno) {
	t.Helper()
	if l, f := Scan([]byte(s)); len(l) != 0 || f.Pos != pos || f.Err != e {
		t.Errorf("%.80q: %d tokens, %v, not %d at %d", s, len(l), f, e, pos)
	}
}

// taken asks for these tokens, and no fault.
func taken(t *testing.T, s string, want ...api.Token) {
	t.Helper()
	if l, f := Scan([]byte(s)); !slices.Equal(l, want) || f != (api.Fault{}) {
		t.Errorf("%.80q: %v, %v, not %v", s, l, f, want)
	}
}

// name, spelled, num and said are tokens at their places.
func name(pos, end int) api.Token { return api.Token{Kind: api.TokName, Pos: pos, End: end} }
func spelled(kind, pos int) api.Token {
	return api.Token{Kind: kind, Pos: pos, End: pos + len(allSpelt()[kind])}
}
func num(pos, end int, n uint64) api.Token {
	return api.Token{Kind: api.TokNum, Pos: pos, End: end, Num: n}
}
func said(pos, end int, s string) api.Token {
	return api.Token{Kind: api.TokText, Pos: pos, End: end, Text: s}
}

// allSpelt has the chapter's words and marks at their kinds.
func allSpelt() []string {
	return slices.Concat(make([]string, 4), chapterWords(), chapterMarks())
}

// pieces is what random texts are made of: tokens, gaps, and what is neither.
func pieces() []string {
	l := []string{
		" ", "  ", "\t", "\r", "\n", "# x\n", "#\n", "#", "/**/", "/* ** / */", "/*\n*/", "/*/**/", "/*", "*/", "/", "*", "//",
		"a", "_", "A9_", "withs", "With", "_of", "of1", "x0", strings.Repeat("n", 32), strings.Repeat("n", 33), "x",
		"0", "1", "9", "10", "01", "00", "18446744073709551615", "18446744073709551616", "99999999999999999999999", "0x1", "1e5", "1.5",
		`""`, `"a"`, `"\""`, `"\\"`, `"\x4a"`, `"\xFf"`, `"\n"`, `"\x0"`, `"\xg0"`, `"\`, `"`, "\"\n\"", "\"\x7f\"", `"/*"`, `"# "`, `\`,
		"\x00", "\x0b", "\x1f", "\x7f", "\x80", "\xff", "é", "@", "$", "%", "'", "`", "{", "}", "[", "]", "<", ">", "?", "~", "^", ".", "+",
	}
	return slices.Concat(l, chapterWords(), chapterMarks(), []string{"--", "->-", "->>", "- >", "=="})
}

func newRandom(seed uint64) *rand.Rand { return rand.New(rand.NewPCG(seed, 6)) }

// mixed is a random text of pieces.
func mixed(r *rand.Rand, most int) string {
	l := pieces()
	s := ""
	for range r.IntN(most + 1) {
		s += l[r.IntN(len(l))]
	}
	return s
}

// tokensOnly is pieces that are each one whole token.
func tokensOnly() []string {
	var l []string
	for _, p := range pieces() {
		if t, f := chapterScan(p); f.Err == api.OK && len(t) == 1 && t[0].Pos == 0 && t[0].End == len(p) {
			l = append(l, p)
		}
	}
	return l
}

// randomBytes is any bytes, those that texts are made with among them more often.
func randomBytes(r *rand.Rand, most int) string {
	b := make([]byte, r.IntN(most+1))
	for i := range b {
		if b[i] = byte(r.Uint32()); r.IntN(3) == 0 {
			b[i] = "\"\\xa0 \n\x1f\x7f"[r.IntN(9)]
		}
	}
	return string(b)
}
