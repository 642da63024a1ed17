package files

import (
	"math/rand/v2"
	"strings"
	"testing"

	"conduit/api"
)

// randomBytes is a row of such as patterns are made of, and some that are no text.
func randomBytes(r *rand.Rand, most int) string {
	b := make([]byte, r.IntN(most))
	for i := range b {
		b[i] = pick(r, 'a', 'b', 'c', 'a', 'b', '*', '*', '?', '[', '[', ']', ']', '^', '-', '\\', '/', 0, 0x7f, 0x80, 0xff, byte(r.IntN(256)))
	}
	return string(b)
}

// P37.2: what each part has.
func TestMatchParts(t *testing.T) {
	for pattern, said := range map[string]struct{ has, not []string }{
		"":             {[]string{""}, []string{"a", "/"}},
		"a":            {[]string{"a"}, []string{"", "b", "aa", "A"}},
		"*":            {[]string{"", "a", "abc", "\xff", "*", "é"}, []string{"/", "a/", "/a", "a/b"}},
		"**":           {[]string{"", "a", "abc"}, []string{"/", "a/b"}},
		"?":            {[]string{"a", "?", "\xff", "\x00"}, []string{"", "/", "ab", "é"}},
		"??":           {[]string{"ab", "é"}, []string{"a", "abc", "a/"}},
		"a*c":          {[]string{"ac", "abc", "abbc", "acc", "abcac"}, []string{"a/c", "acb", "bac", ""}},
		"*/*":          {[]string{"/", "a/", "/a", "a/b"}, []string{"a", "a/b/c", "//"}},
		"a/b":          {[]string{"a/b"}, []string{"a", "ab", "a//b"}},
		"*a/b*c/*":     {[]string{"a/bc/", "aaa/bcc/x", "ba/bac/"}, []string{"a/b/c/", "a/bc", "a/bcb/"}},
		"*ab":          {[]string{"ab", "aab", "abab", "abaab"}, []string{"a", "aba", "a/ab"}},
		"*a*b*":        {[]string{"ab", "xaxbx", "aab"}, []string{"ba", "a/b"}},
		"[a]":          {[]string{"a"}, []string{"", "b", "aa", "]"}},
		"[abc]":        {[]string{"a", "b", "c"}, []string{"d", "ab"}},
		"[a-c]":        {[]string{"a", "b", "c"}, []string{"d", "-", "`"}},
		"[c-a]":        {nil, []string{"a", "b", "c", "-", ""}},
		"[c-ab]":       {[]string{"b"}, []string{"a", "c", "-"}},
		"[a-a]":        {[]string{"a"}, []string{"b", "-"}},
		"[a-cx-z]":     {[]string{"a", "b", "x", "z"}, []string{"d", "w", "-"}},
		"[^a]":         {[]string{"b", "^", "\xff", "\x00"}, []string{"a", "/", "", "bb"}},
		"[^a-c]":       {[]string{"d", "-", "^"}, []string{"a", "b", "c", "/"}},
		"[^c-a]":       {[]string{"a", "b", "-"}, []string{"/", ""}},
		"[^^]":         {[]string{"a"}, []string{"^", "/"}},
		"[a^]":         {[]string{"a", "^"}, []string{"b"}},
		`[\^]`:         {[]string{"^"}, []string{`\`, "a"}},
		`[\^a]`:        {[]string{"^", "a"}, []string{`\`, "b"}},
		`[\]]`:         {[]string{"]"}, []string{`\`, `\]`}},
		`[\]-a]`:       {[]string{"]", "^", "_", "`", "a"}, []string{`\`, "-", "b"}},
		`[a\-c]`:       {[]string{"a", "-", "c"}, []string{"b", `\`}},
		`[\--\\]`:      {[]string{"-", ".", "A", "[", `\`}, []string{"/", "]", ","}},
		`[\\]`:         {[]string{`\`}, []string{"]", `\\`}},
		`[\a-\c]`:      {[]string{"a", "b", "c"}, []string{`\`, "-"}},
		"[*?[]":        {[]string{"*", "?", "["}, []string{"a", "]"}},
		"[/]":          {nil, []string{"/", "", "a"}},
		"[.-0]":        {[]string{".", "0"}, []string{"/"}},
		"[\x80-é]":     {[]string{"\x80", "\xc3", "\xa9"}, []string{"é", "\x7f", "\xc4"}},
		"[\x00-\xff]":  {[]string{"\x00", "a", "\xff"}, []string{"/", "", "ab"}},
		"[^\x00-\xff]": {nil, []string{"\x00", "a", "\xff", "/", ""}},
		`\*`:           {[]string{"*"}, []string{`\*`, "a", ""}},
		`\a\\\/`:       {[]string{`a\/`}, []string{`\a\\\/`}},
		`\[a]`:         {[]string{"[a]"}, []string{"a"}},
		"]-^":          {[]string{"]-^"}, []string{"]", "-"}},
		"\xff":         {[]string{"\xff"}, []string{"ÿ", "\xfe"}},
		"é":            {[]string{"é"}, []string{"\xc3", "e"}},
		"[é]":          {[]string{"\xc3", "\xa9"}, []string{"é"}},
	} {
		for _, name := range said.has {
			if is, e := Match(pattern, name); !is || e != api.OK {
				t.Errorf("%q %q: %v %v", pattern, name, is, e)
			}
		}
		for _, name := range said.not {
			if is, e := Match(pattern, name); is || e != api.OK {
				t.Errorf("%q %q: %v %v", pattern, name, is, e)
			}
		}
	}
}

// P37.2: what is no pattern has nothing, whatever the name.
func TestNoPattern(t *testing.T) {
	for _, pattern := range []string{"[", "[a", "[a-", "[a-]", "[]", "[]a]", "[^", "[^]", "[^]a]", "[-", "[-a]", "[a-b-c]", "[a--]", "[^-a]", `\`, `a\`, `*\`, `[\`, `[\]`, `[a\]`, `[a-\`, `[a-\]`, "a[", "*[", "?[", "[a]]["} {
		for _, name := range []string{"", "a", "[", pattern, "/", "b", "aa"} {
			if is, e := Match(pattern, name); is || e != api.ErrPattern {
				t.Errorf("%q %q: %v %v", pattern, name, is, e)
			}
		}
		for _, more := range []string{"b", "b*", "*", "?/", "[x]", `\*`} {
			if is, e := Match(more+pattern, "z"); is || e != api.ErrPattern {
				t.Errorf("%q: %v %v", more+pattern, is, e)
			}
		}
	}
}

// P37.2: the chapter's words, of all short patterns with a "/" in them.
func TestMatchShort(t *testing.T) {
	names := []string{"", "a", "/", "-", "a/", "/a", "aa", "a-", "//", "]", "^/"}
	each(`a/*[]^-\`, 4, func(s string) {
		for _, name := range names {
			is, e := Match(s, name)
			if said, fault := chapterMatch(s, name); is != said || e != fault {
				t.Fatalf("%q %q: %v %v, not %v %v", s, name, is, e, said, fault)
			}
		}
	})
}

// P37.2: and of any patterns and names.
func TestMatchAny(t *testing.T) {
	r := newRandom(4)
	had := 0
	for range 20000 {
		s := randomPattern(r)
		for range 4 {
			name := randomBytes(r, 6)
			if r.IntN(2) == 0 {
				name = strings.TrimSuffix(randomPath(r), "...")
			}
			is, e := Match(s, name)
			if said, fault := chapterMatch(s, name); is != said || e != fault {
				t.Fatalf("%q %q: %v %v, not %v %v", s, name, is, e, said, fault)
			}
			if is {
				had++
			}
		}
	}
	if had < 500 {
		t.Error(had)
	}
}

// P37.2: the longest ones, and such as many ways lead nowhere in.
func TestMatchLong(t *testing.T) {
	long := strings.Repeat("a", 1024)
	for _, s := range []struct {
		pattern, name string
		is            bool
	}{
		{long, long, true},
		{long, long[1:], false},
		{long[1:] + "*", long, true},
		{strings.Repeat("*", 1024), long, true},
		{strings.Repeat("?", 1024), long, true},
		{strings.Repeat("*a", 512), long, true},
		{strings.Repeat("*a", 512), long[1:] + "b", false},
		{strings.Repeat("a*", 511) + "b", long, false},
		{"*" + strings.Repeat("a", 511) + "b", long, false},
		{"[" + strings.Repeat("b", 1021) + "a]", "a", true},
		{strings.Repeat("*a*/", 256), strings.Repeat("baa/", 256), true},
		{strings.Repeat("*a*/", 256), strings.Repeat("baa/", 255) + "bab", false},
	} {
		if is, e := Match(s.pattern, s.name); is != s.is || e != api.OK {
			t.Errorf("%.20q %.20q: %v %v", s.pattern, s.name, is, e)
		}
	}
}
