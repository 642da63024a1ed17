package files

import (
	"testing"

	"conduit/api"
)

// P37.7: what is no directory has no store below it.
func TestSubNone(t *testing.T) {
	eachStore(func(st api.Store) {
		for dir, said := range map[string]api.Errno{"": api.ErrPath, "/a": api.ErrPath, "a/": api.ErrPath, "..": api.ErrPath, "c": api.ErrMissing, "a/z": api.ErrMissing, "b/c": api.ErrMissing, "b": api.ErrNotDir, "a/x": api.ErrNotDir} {
			if sub, e := Sub(st, dir); !sameStore(sub, api.Store{}) || e != said {
				t.Errorf("%+v %q: %+v %v", st, dir, sub, e)
			}
		}
	})
}

// P37.7: the files below it, as the store has them; what it can do is the store's own, where that could be asked for it.
func TestSub(t *testing.T) {
	eachStore(func(st api.Store) {
		caps := st.Caps
		if caps&capsOf(api.FcSub) == 0 {
			caps = capsOf(api.FcReadFile, api.FcReadDir, api.FcGlob, api.FcSub)
		}
		for dir, l := range map[string][]string{".": {"a/x=1", "a/y=22", "b=333"}, "a": {"x=1", "y=22"}} {
			if sub, e := Sub(st, dir); !sameStore(sub, of(caps, st.Blind, l...)) || e != api.OK {
				t.Errorf("%+v %q: %+v %v", st, dir, sub, e)
			}
		}
	})
	st := of(16, true, "z/b/d=1", "z-/b=2", "z/a=3", "b/z/c=4", "z/b/c=5")
	if sub, e := Sub(st, "z"); !sameStore(sub, of(16, true, "b/d=1", "a=3", "b/c=5")) || e != api.OK {
		t.Errorf("%+v %v", sub, e)
	}
	if sub, e := Sub(st, "z/b"); !sameStore(sub, of(16, true, "d=1", "c=5")) || e != api.OK {
		t.Errorf("%+v %v", sub, e)
	}
	if sub, e := Sub(of(0, false), "."); len(sub.Files) != 0 || sub.Caps != 30 || e != api.OK {
		t.Errorf("%+v %v", sub, e)
	}
}
