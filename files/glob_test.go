package files

import (
	"slices"
	"strings"
	"testing"

	"conduit/api"
)

// deep is a store with files at several depths.
func deep(caps uint32) api.Store {
	return of(caps, false, "a/b/c", "a/b/d", "a/c", "b/b/c", "c", "ab/b/c", "[/x", "*", `\/y`, "z/]")
}

// globsTo holds the paths of a pattern, and what was opened for them.
func globsTo(t *testing.T, st api.Store, pattern string, said []string, asked []api.Asked) {
	t.Helper()
	if l, a, e := Glob(st, pattern); !slices.Equal(l, said) || !slices.Equal(a, asked) || e != api.OK {
		t.Errorf("%q: %q %v %v", pattern, l, a, e)
	}
}

// P37.6: without special bytes it is a path, of which is told what it is.
func TestGlobPlain(t *testing.T) {
	for path, said := range map[string][]string{"c": {"c"}, "a": {"a"}, "a/b": {"a/b"}, ".": {"."}, "d": nil, "a/d": nil, "c/c": nil, "z/]": {"z/]"}, "a-b": nil} {
		globsTo(t, deep(0), path, said, opening(path))
		globsTo(t, blindly(deep(0)), path, said, opening(path))
		globsTo(t, deep(capsOf(api.FcStat)), path, said, asks(api.FcStat, path))
	}
	for _, path := range []string{"", "/", "/a", "a/", "./a", "..", "a//b", "\xff", text(1025)} {
		globsTo(t, deep(0), path, nil, nil)
		globsTo(t, deep(31), path, nil, asks(api.FcGlob, path))
	}
}

// P37.6: with them, from its first directory on, element by element.
func TestGlobByHand(t *testing.T) {
	st := deep(0)
	globsTo(t, st, "*", []string{"*", "[", `\`, "a", "ab", "b", "c", "z"}, opening("."))
	globsTo(t, st, "?", []string{"*", "[", `\`, "a", "b", "c", "z"}, opening("."))
	globsTo(t, st, "a/*", []string{"a/b", "a/c"}, opening("a"))
	globsTo(t, st, "a/*/c", []string{"a/b/c"}, opening("a", "a/b", "a/c"))
	globsTo(t, st, "a*/b/?", []string{"a/b/c", "a/b/d", "ab/b/c"}, opening(".", "a", "ab", "a/b", "ab/b"))
	globsTo(t, st, "*/b", []string{"a/b", "ab/b", "b/b"}, opening(".", "*", "[", `\`, "a", "ab", "b", "c", "z"))
	globsTo(t, st, "[ab]/[ab]/c", []string{"a/b/c", "b/b/c"}, opening(".", "a", "b", "a/b", "b/b"))
	globsTo(t, st, "c/*", nil, opening("c"))
	globsTo(t, st, "d/*", nil, opening("d"))
	globsTo(t, st, "d/*/*", nil, opening("d"))
	globsTo(t, st, "a/b/c*", []string{"a/b/c"}, opening("a/b"))
	globsTo(t, st, `\*`, []string{"*"}, opening("."))
	globsTo(t, st, `\[/x`, []string{"[/x"}, opening(".", "["))
	globsTo(t, st, `[[]/*`, []string{"[/x"}, opening(".", "["))
	globsTo(t, st, `\\/y`, []string{`\/y`}, opening(".", `\`))
	globsTo(t, st, `\a/\b/\c`, []string{"a/b/c"}, opening(".", "a", "a/b"))
	globsTo(t, st, "z/[^a]", []string{"z/]"}, opening("z"))
}

// P37.6: a directory that is none, or that is written otherwise than a path, has nothing in it; "." ahead is one that has.
func TestGlobOddDirs(t *testing.T) {
	st := deep(0)
	globsTo(t, st, "./*b", []string{"ab", "b"}, opening("."))
	globsTo(t, st, "./a/*", nil, nil)
	globsTo(t, st, "/*", nil, nil)
	globsTo(t, st, "//*", nil, nil)
	globsTo(t, st, "/a/*", nil, nil)
	globsTo(t, st, "a//*", nil, nil)
	globsTo(t, st, "../*", nil, nil)
	globsTo(t, st, "c/../*", nil, nil)
	globsTo(t, st, "c*/", nil, opening(".", "c"))
	globsTo(t, st, "c*/.", nil, opening(".", "c"))
	globsTo(t, st, "a*//c", nil, opening(".", "a", "ab"))
	globsTo(t, st, text(1025)+"/*", nil, nil)
	globsTo(t, of(0, false), "*", nil, opening("."))
}

// P37.6: what is cut out of a class, or behind a \, is no pattern, and has no names.
func TestGlobCut(t *testing.T) {
	st := deep(0)
	globsTo(t, st, "[a/b]", nil, opening("."))
	globsTo(t, st, "[a/]", nil, opening("."))
	globsTo(t, st, "z/[a/]", nil, opening("z"))
	globsTo(t, st, `a\/b`, nil, opening("."))
	globsTo(t, st, `\/y`, nil, opening("."))
	globsTo(t, st, "[/[]", nil, opening("."))
	globsTo(t, st, "a[^/]*", nil, opening("."))
	globsTo(t, st, "a/[b/c/d]/c", nil, opening("a"))
}

// P37.6: of a blind store, by hand, only what is told of a path is found; by a capability, all.
func TestGlobBlind(t *testing.T) {
	st := blindly(deep(0))
	globsTo(t, st, "*", nil, opening("."))
	globsTo(t, st, "a/*/c", nil, opening("a"))
	st.Caps = capsOf(api.FcReadDir, api.FcStat)
	globsTo(t, st, "a/*/c", []string{"a/b/c"}, asks(api.FcReadDir, "a", "a/b", "a/c"))
	st.Caps = capsOf(api.FcGlob)
	globsTo(t, st, "a/*/c", []string{"a/b/c"}, asks(api.FcGlob, "a/*/c"))
	globsTo(t, st, "c", []string{"c"}, asks(api.FcGlob, "c"))
	globsTo(t, st, "d", nil, asks(api.FcGlob, "d"))
}

// P37.6: nothing is asked for what is no pattern.
func TestGlobNoPattern(t *testing.T) {
	eachStore(func(st api.Store) {
		for _, pattern := range []string{"[", "a/[", "[/a", `\`, `a/*\`, "[]", "*/[^]", "[b-]/x", "/["} {
			if l, a, e := Glob(st, pattern); len(l) != 0 || len(a) != 0 || e != api.ErrPattern {
				t.Errorf("%+v %q: %q %v %v", st, pattern, l, a, e)
			}
		}
	})
}

// P37.6: the longest pattern, through the deepest files.
func TestGlobDeep(t *testing.T) {
	path := strings.Repeat("a/", 511) + "a"
	pattern := strings.Repeat("*/", 511) + "?"
	for caps := range uint32(32) {
		l, a, e := Glob(of(caps, false, path, "b"), pattern)
		if !slices.Equal(l, []string{path}) || e != api.OK {
			t.Errorf("%d: %d %v", caps, len(l), e)
		}
		if said := 513; caps>>api.FcGlob&1 == 0 && len(a) != said {
			t.Errorf("%d: %d", caps, len(a))
		}
	}
}
