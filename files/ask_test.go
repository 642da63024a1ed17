package files

import (
	"slices"
	"testing"

	"conduit/api"
)

// eachStore calls with the chapter's store, as it is with each set of capabilities, blind or not.
func eachStore(call func(st api.Store)) {
	for caps := range uint32(1 << api.NumFc) {
		call(given(caps))
		call(blindly(given(caps)))
	}
}

// askedBy is how a store is asked for a path.
func askedBy(st api.Store, way int, path string) []api.Asked {
	if st.Caps>>way&1 == 0 {
		way = api.WayOpen
	}
	return asks(way, path)
}

// P37.3 to P37.5: what is no path is not asked for.
func TestNoPath(t *testing.T) {
	eachStore(func(st api.Store) {
		for _, path := range []string{"", "/", "/a", "a/", "..", "./a", "a//x", "\xff", text(1025)} {
			if x, a, e := Stat(st, path); x != (api.Info{}) || len(a) != 0 || e != api.ErrPath {
				t.Errorf("%+v %.9q: %v %v %v", st, path, x, a, e)
			}
			if s, a, e := ReadFile(st, path); s != "" || len(a) != 0 || e != api.ErrPath {
				t.Errorf("%+v %.9q: %v %v %v", st, path, s, a, e)
			}
			if l, a, e := ReadDir(st, path); len(l) != 0 || len(a) != 0 || e != api.ErrPath {
				t.Errorf("%+v %.9q: %v %v %v", st, path, l, a, e)
			}
		}
	})
}

// P37.3 to P37.5: what does not lie there is asked for once, and that is told.
func TestMissing(t *testing.T) {
	eachStore(func(st api.Store) {
		for _, path := range []string{"c", "a/z", "a/x/y", "b/b", "aa", "a-", "x", "A", text(1024)} {
			if x, a, e := Stat(st, path); x != (api.Info{}) || !slices.Equal(a, askedBy(st, api.FcStat, path)) || e != api.ErrMissing {
				t.Errorf("%+v %.9q: %v %v %v", st, path, x, a, e)
			}
			if s, a, e := ReadFile(st, path); s != "" || !slices.Equal(a, askedBy(st, api.FcReadFile, path)) || e != api.ErrMissing {
				t.Errorf("%+v %.9q: %v %v %v", st, path, s, a, e)
			}
			if l, a, e := ReadDir(st, path); len(l) != 0 || !slices.Equal(a, askedBy(st, api.FcReadDir, path)) || e != api.ErrMissing {
				t.Errorf("%+v %.9q: %v %v %v", st, path, l, a, e)
			}
		}
	})
}

// P37.3: what a path is, by each way.
func TestStat(t *testing.T) {
	eachStore(func(st api.Store) {
		for path, said := range map[string]api.Info{".": {Name: ".", Dir: true}, "a": {Name: "a", Dir: true}, "a/x": {Name: "x", Size: 1}, "a/y": {Name: "y", Size: 2}, "b": {Name: "b", Size: 3}} {
			if x, a, e := Stat(st, path); x != said || !slices.Equal(a, askedBy(st, api.FcStat, path)) || e != api.OK {
				t.Errorf("%+v %q: %v %v %v", st, path, x, a, e)
			}
		}
	})
	if x, _, e := Stat(of(0, false, "a/b/c/d", "a/b/é=\xff"), "a/b"); x != (api.Info{Name: "b", Dir: true}) || e != api.OK {
		t.Error(x, e)
	}
	if x, _, e := Stat(of(0, false, "a/b="+text(api.MaxBytes)), "a/b"); x != (api.Info{Name: "b", Size: api.MaxBytes}) || e != api.OK {
		t.Error(x, e)
	}
}

// P37.4: what stands in a file, by each way.
func TestReadFile(t *testing.T) {
	eachStore(func(st api.Store) {
		for path, said := range map[string]string{"a/x": "1", "a/y": "22", "b": "333"} {
			if s, a, e := ReadFile(st, path); s != said || !slices.Equal(a, askedBy(st, api.FcReadFile, path)) || e != api.OK {
				t.Errorf("%+v %q: %v %v %v", st, path, s, a, e)
			}
		}
		for _, path := range []string{".", "a"} {
			if s, a, e := ReadFile(st, path); s != "" || !slices.Equal(a, askedBy(st, api.FcReadFile, path)) || e != api.ErrIsDir {
				t.Errorf("%+v %q: %v %v %v", st, path, s, a, e)
			}
		}
	})
	if s, _, e := ReadFile(of(0, false, "a", "b=\xff\x00"), "a"); s != "" || e != api.OK {
		t.Errorf("%q %v", s, e)
	}
	if s, _, e := ReadFile(of(0, false, "a", "b=\xff\x00"), "b"); s != "\xff\x00" || e != api.OK {
		t.Errorf("%q %v", s, e)
	}
}

// P37.5: what lies in a directory, by each way; one that was opened may be blind.
func TestReadDir(t *testing.T) {
	eachStore(func(st api.Store) {
		for path, said := range map[string][]api.Info{".": {{Name: "a", Dir: true}, {Name: "b", Size: 3}}, "a": {{Name: "x", Size: 1}, {Name: "y", Size: 2}}} {
			fault := api.OK
			if st.Blind && st.Caps>>api.FcReadDir&1 == 0 {
				said, fault = nil, api.ErrBlind
			}
			if l, a, e := ReadDir(st, path); !slices.Equal(l, said) || !slices.Equal(a, askedBy(st, api.FcReadDir, path)) || e != fault {
				t.Errorf("%+v %q: %v %v %v", st, path, l, a, e)
			}
		}
		for _, path := range []string{"b", "a/x"} {
			if l, a, e := ReadDir(st, path); len(l) != 0 || !slices.Equal(a, askedBy(st, api.FcReadDir, path)) || e != api.ErrNotDir {
				t.Errorf("%+v %q: %v %v %v", st, path, l, a, e)
			}
		}
	})
}

// P37.5: names rise byte by byte, each once, whatever the order of the files.
func TestReadDirOrder(t *testing.T) {
	st := of(0, false, "é", "b", "a/z", "a-b", "a!/x", "B/x", "a/y", "aa", "a0", "b-/c/d", "~", "a/q/r", "...")
	said := []api.Info{{Name: "..."}, {Name: "B", Dir: true}, {Name: "a", Dir: true}, {Name: "a!", Dir: true}, {Name: "a-b"}, {Name: "a0"}, {Name: "aa"}, {Name: "b"}, {Name: "b-", Dir: true}, {Name: "~"}, {Name: "é"}}
	if l, _, e := ReadDir(st, "."); !slices.Equal(l, said) || e != api.OK {
		t.Error(l, e)
	}
	if l, _, e := ReadDir(st, "a"); !slices.Equal(l, []api.Info{{Name: "q", Dir: true}, {Name: "y"}, {Name: "z"}}) || e != api.OK {
		t.Error(l, e)
	}
	if l, _, e := ReadDir(of(0, false), "."); len(l) != 0 || e != api.OK {
		t.Error(l, e)
	}
	if l, _, e := ReadDir(of(0, true), "."); len(l) != 0 || e != api.ErrBlind {
		t.Error(l, e)
	}
}
