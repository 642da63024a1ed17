package scan

import (
	"strings"
	"testing"

	"conduit/api"
)

// The chapter's example 1.
func TestExampleTokens(t *testing.T) {
	taken(t, "handler a1=echo#x", spelled(api.TokHandler, 0), name(8, 10), spelled(api.TokIs, 10), name(11, 15))
	taken(t, "->-", spelled(api.TokArrow, 0), spelled(api.TokMinus, 2))
}

// The chapter's example 2.
func TestExampleTexts(t *testing.T) {
	taken(t, `"a\"\\\x0A"`, said(0, 11, string([]byte{97, 34, 92, 10})))
	for _, s := range []string{"\"a\nb\"", `"\n"`, `"\x0"`, `"abc`} {
		refused(t, s, 0, api.ErrText)
		refused(t, "a "+s, 2, api.ErrText)
	}
}

// The chapter's example 3.
func TestExampleFaults(t *testing.T) {
	refused(t, "01", 0, api.ErrInt)
	refused(t, "/x", 0, api.ErrByte)
	refused(t, "/* x", 0, api.ErrComment)
	refused(t, strings.Repeat("x", 33), 0, api.ErrWord)
	taken(t, "12ab", num(0, 2, 12), name(2, 4))
}

// The chapter's example 4.
func TestExampleQuote(t *testing.T) {
	if got := Quote(string([]byte{34, 10, 200})); got != `"\"\x0a\xc8"` {
		t.Error(got)
	}
}
