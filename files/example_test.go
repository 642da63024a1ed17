package files

import (
	"slices"
	"testing"

	"conduit/api"
)

// opening is that those were opened, in that order.
func opening(paths ...string) []api.Asked { return asks(api.WayOpen, paths...) }

func names(l []api.Info) (names []string) {
	for _, x := range l {
		names = append(names, x.Name)
	}
	return names
}

// The chapter's example 1.
func TestExampleOne(t *testing.T) {
	st := given(0)
	if x, a, e := Stat(st, "a"); x != (api.Info{Name: "a", Dir: true}) || !slices.Equal(a, opening("a")) || e != api.OK {
		t.Error(x, a, e)
	}
	for path, said := range map[string]api.Errno{"a": api.ErrIsDir, "a/z": api.ErrMissing, "/a": api.ErrPath} {
		asked := opening(path)
		if path == "/a" {
			asked = nil
		}
		if s, a, e := ReadFile(st, path); s != "" || e != said || !slices.Equal(a, asked) {
			t.Error(s, a, e)
		}
	}
	for _, able := range []api.Store{st, blindly(given(capsOf(api.FcReadDir)))} {
		if l, _, e := ReadDir(able, "."); !slices.Equal(names(l), []string{"a", "b"}) || e != api.OK {
			t.Error(l, e)
		}
	}
	if l, _, e := ReadDir(blindly(st), "."); l != nil || e != api.ErrBlind {
		t.Error(l, e)
	}
}

// The chapter's example 2.
func TestExampleGlob(t *testing.T) {
	for pattern, said := range map[string][]string{"a/*": {"a/x", "a/y"}, "*/x": {"a/x"}, "b": {"b"}, "a/[x-y]": {"a/x", "a/y"}, "/*": nil} {
		if l, _, e := Glob(given(0), pattern); !slices.Equal(l, said) || e != api.OK {
			t.Errorf("%s: %q %v", pattern, l, e)
		}
	}
	if _, a, _ := Glob(given(0), "*/x"); !slices.Equal(a, opening(".", "a", "b")) {
		t.Error(a)
	}
	if l, a, e := Glob(given(0), "["); l != nil || a != nil || e != api.ErrPattern {
		t.Error(l, a, e)
	}
}

// The chapter's example 3.
func TestExampleWalk(t *testing.T) {
	for _, s := range []struct {
		root       string
		skip, said []string
	}{
		{".", nil, []string{".", "a", "a/x", "a/y", "b"}},
		{".", []string{"a"}, []string{".", "a", "b"}},
		{".", []string{"a/x"}, []string{".", "a", "a/x", "b"}},
		{"b", []string{"b"}, []string{"b"}},
	} {
		if l, _, e := Walk(given(0), s.root, s.skip); !slices.Equal(l, s.said) || e != api.OK {
			t.Errorf("%s %q: %q %v", s.root, s.skip, l, e)
		}
	}
}

// The chapter's example 4.
func TestExampleMatch(t *testing.T) {
	for _, s := range []struct {
		pattern, name string
		is            bool
		e             api.Errno
	}{
		{"a*c", "abc", true, api.OK},
		{"a*c", "a/c", false, api.OK},
		{"[^a]", "/", false, api.OK},
		{`\*`, "*", true, api.OK},
		{"[a-", "a", false, api.ErrPattern},
		{"[]a]", "]", false, api.ErrPattern},
	} {
		if is, e := Match(s.pattern, s.name); is != s.is || e != s.e {
			t.Errorf("%s %s: %v %v", s.pattern, s.name, is, e)
		}
	}
}

// The chapter's example 5.
func TestExampleSub(t *testing.T) {
	st, e := Sub(given(0), "a")
	if !sameStore(st, of(capsOf(api.FcReadFile, api.FcReadDir, api.FcGlob, api.FcSub), false, "x=1", "y=22")) || e != api.OK {
		t.Error(st, e)
	}
}
