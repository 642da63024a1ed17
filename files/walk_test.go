package files

import (
	"slices"
	"strconv"
	"strings"
	"testing"

	"conduit/api"
)

func walksTo(t *testing.T, st api.Store, root string, skip []string, fault api.Errno, said ...string) {
	t.Helper()
	if l, _, e := Walk(st, root, skip); !slices.Equal(l, said) || e != fault {
		t.Errorf("%q %q: %q %v", root, skip, l, e)
	}
}

// P37.8: what is not there is not come to; that it was asked for is told.
func TestWalkNowhere(t *testing.T) {
	eachStore(func(st api.Store) {
		if l, a, e := Walk(st, "c", nil); len(l) != 0 || !slices.Equal(a, askedBy(st, api.FcStat, "c")) || e != api.ErrMissing {
			t.Error(st, l, a, e)
		}
		if l, a, e := Walk(st, "a/", nil); len(l) != 0 || len(a) != 0 || e != api.ErrPath {
			t.Error(st, l, a, e)
		}
	})
}

// P37.8: a file alone, and directories with all in them, by each way.
func TestWalk(t *testing.T) {
	eachStore(func(st api.Store) {
		if l, a, e := Walk(st, "a/y", nil); !slices.Equal(l, []string{"a/y"}) || !slices.Equal(a, askedBy(st, api.FcStat, "a/y")) || e != api.OK {
			t.Error(st, l, a, e)
		}
		said, asked, fault := []string{".", "a", "a/x", "a/y", "b"}, askedBy(st, api.FcStat, "."), api.OK
		if st.Blind && st.Caps>>api.FcReadDir&1 == 0 {
			said, asked, fault = said[:1], append(asked, opening(".")...), api.ErrBlind
		} else {
			asked = slices.Concat(asked, askedBy(st, api.FcReadDir, "."), askedBy(st, api.FcReadDir, "a"))
		}
		if l, a, e := Walk(st, ".", nil); !slices.Equal(l, said) || !slices.Equal(a, asked) || e != fault {
			t.Error(st, l, a, e)
		}
	})
	walksTo(t, of(0, false), ".", nil, api.OK, ".")
	walksTo(t, of(0, false, "b-/x", "b/c/d", "b/a", "a"), ".", nil, api.OK, ".", "a", "b", "b/a", "b/c", "b/c/d", "b-", "b-/x")
	walksTo(t, of(0, false, "b-/x", "b/c/d", "b/a", "a"), "b", nil, api.OK, "b", "b/a", "b/c", "b/c/d")
	walksTo(t, of(0, false, "b-/x", "b/c/d", "b/a", "a"), "b/c", nil, api.OK, "b/c", "b/c/d")
}

// P37.8: a directory that is skipped is told, and nothing in it; behind a file that is, nothing more of the directory in which it was found.
func TestWalkSkip(t *testing.T) {
	st := of(0, false, "a/b/c", "a/b/d", "a/b/e/f", "a/g", "a/h", "i/j", "k")
	walksTo(t, st, ".", []string{"."}, api.OK, ".")
	walksTo(t, st, "a", []string{"a"}, api.OK, "a")
	walksTo(t, st, "k", []string{"k"}, api.OK, "k")
	walksTo(t, st, "a", []string{"."}, api.OK, "a", "a/b", "a/b/c", "a/b/d", "a/b/e", "a/b/e/f", "a/g", "a/h")
	walksTo(t, st, ".", []string{"a/b", "i"}, api.OK, ".", "a", "a/b", "a/g", "a/h", "i", "k")
	walksTo(t, st, ".", []string{"a/b/c"}, api.OK, ".", "a", "a/b", "a/b/c", "a/g", "a/h", "i", "i/j", "k")
	walksTo(t, st, ".", []string{"a/b/d", "k"}, api.OK, ".", "a", "a/b", "a/b/c", "a/b/d", "a/g", "a/h", "i", "i/j", "k")
	walksTo(t, st, ".", []string{"a/b/e/f", "a/g"}, api.OK, ".", "a", "a/b", "a/b/c", "a/b/d", "a/b/e", "a/b/e/f", "a/g", "i", "i/j", "k")
	walksTo(t, st, ".", []string{"i/j", "a"}, api.OK, ".", "a", "i", "i/j", "k")
	walksTo(t, st, ".", []string{"a/b/c", "a/b/c", "a/g", "i/j"}, api.OK, ".", "a", "a/b", "a/b/c", "a/g", "i", "i/j", "k")
	walksTo(t, st, "a/b", []string{"", "b", "c", "/a", "a/", "./a", "f", "\xff"}, api.OK, "a/b", "a/b/c", "a/b/d", "a/b/e", "a/b/e/f")
	if _, a, _ := Walk(st, ".", []string{"a/b", "i/j", "k"}); !slices.Equal(a, opening(".", ".", "a", "i")) {
		t.Error(a)
	}
}

// P37.8: what is skipped is not read; a directory that can't be ends it all.
func TestWalkBlind(t *testing.T) {
	st := blindly(of(0, false, "a/b", "c"))
	walksTo(t, st, ".", nil, api.ErrBlind, ".")
	walksTo(t, st, ".", []string{"."}, api.OK, ".")
	walksTo(t, st, "a", []string{"a/b"}, api.ErrBlind, "a")
	walksTo(t, st, "a/b", nil, api.OK, "a/b")
	st.Caps = capsOf(api.FcReadDir)
	walksTo(t, st, ".", []string{"a/b"}, api.OK, ".", "a", "a/b", "c")
}

// P37.8: the greatest stores.
func TestWalkGreat(t *testing.T) {
	var st api.Store
	for i := range api.MaxFiles {
		st.Files = append(st.Files, api.Entry{Path: strings.Repeat("a/", 400) + strconv.Itoa(i) + strings.Repeat("/b", 40)})
	}
	l, a, e := Walk(st, ".", nil)
	if dirs := 401 + 40*api.MaxFiles; len(l) != dirs+api.MaxFiles || len(a) != 1+dirs || e != api.OK {
		t.Error(len(l), len(a), e)
	}
}
