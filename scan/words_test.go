package scan

import (
	"math"
	"slices"
	"testing"

	"conduit/api"
)

// P6.2: Kind and Text of each word and mark, by the chapter's order.
func TestKindAndText(t *testing.T) {
	kinds := []int{api.TokAfter, api.TokCaps, api.TokDrop, api.TokElse, api.TokHandler, api.TokInbox, api.TokOf, api.TokOpen, api.TokRoute, api.TokWhen, api.TokWith,
		api.TokNot, api.TokAnd, api.TokLeft, api.TokRight, api.TokComma, api.TokMinus, api.TokArrow, api.TokColon, api.TokSemi, api.TokIs, api.TokOr}
	all := slices.Concat(chapterWords(), chapterMarks())
	if len(all) != len(kinds) || len(kinds) != 22 {
		t.Fatal(len(all), len(kinds))
	}
	for i, s := range all {
		if got := Kind(s); got != kinds[i] || got != 4+i {
			t.Errorf("%q: %d", s, got)
		}
		if got := Text(4 + i); got != s {
			t.Errorf("%d: %q", 4+i, got)
		}
	}
}

// P6.2: what is no word and no mark.
func TestNoKind(t *testing.T) {
	l := []string{"", " ", "a", "afte", "afters", "After", "WITH", "with ", " with", "->-", "> ", ">", "-> ", "--", "==", "/", "#", "/*", "*/", "\"", `""`, `"with"`, "0", "4", "_", "\x00", "with\x00", "\xff", "off", "wrap", "config", "name", "withwhen", "with when", "\n"}
	for _, s := range l {
		if got := Kind(s); got != 0 {
			t.Errorf("%q: %d", s, got)
		}
	}
	all := slices.Concat(chapterWords(), chapterMarks())
	for a := range 256 {
		for b := range 256 {
			two := string([]byte{byte(a), byte(b)})
			if got := Kind(two); (got != 0) != slices.Contains(all, two) {
				t.Errorf("%q: %d", two, got)
			}
		}
	}
}

// P6.2: the numbers that have no word.
func TestNoText(t *testing.T) {
	for _, kind := range []int{api.TokName, api.TokNum, api.TokText, 0, -1, -4, api.NumTok, api.NumTok + 1, 99, 1 << 32, 1<<32 + 4, math.MinInt, math.MaxInt} {
		if got := Text(kind); got != "" {
			t.Errorf("%d: %q", kind, got)
		}
	}
	for kind := -300; kind < 300; kind++ {
		if (Text(kind) != "") != (4 <= kind && kind < 26) {
			t.Errorf("%d: %q", kind, Text(kind))
		}
	}
}

// P6.2 and P6.1: a word or mark by itself is a token of its Kind, and what is none is not.
func TestKindsOfTokens(t *testing.T) {
	for _, s := range tokensOnly() {
		l, _ := asked(t, s)
		want := l[0].Kind
		if want < api.TokAfter {
			want = 0
		}
		if got := Kind(s); got != want {
			t.Errorf("%q: %d, not %d", s, got, want)
		}
	}
}
