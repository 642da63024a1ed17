package files

import (
	"maps"
	"slices"
	"strings"
	"testing"

	"conduit/api"
)

// P37.3 to P37.8: all calls of any store.
func TestAsSaid(t *testing.T) {
	r := newRandom(6)
	for range 8000 {
		st := randomStore(r, randomPath)
		asSaid(t, st, somePath(r, st), randomPattern(r), randomSkip(r, st))
	}
}

// P37.9: of a store that is not blind, all answers but what was asked are the same, whatever it can do.
func TestSameByEveryWay(t *testing.T) {
	r := newRandom(7)
	for range 3000 {
		st := randomStore(r, randomPath)
		st.Blind, st.Caps = false, 0
		path, pattern, skip := somePath(r, st), randomPattern(r), randomSkip(r, st)
		said := calls(st, path, pattern, skip)
		for caps := range uint32(32) {
			st.Caps = caps
			for i, got := range calls(st, path, pattern, skip) {
				got.store.Caps, said[i].store.Caps = 0, 0
				if !sameBut(got, said[i]) {
					t.Fatalf("call %d, %+v %q %q %q: %+v, not %+v", i, st, path, pattern, skip, got, said[i])
				}
			}
		}
	}
}

// P37.10: walking tells all there is, each once, directories ahead of what lies in them, and reading a directory what the walk tells one element further.
func TestWalkTellsAll(t *testing.T) {
	r := newRandom(8)
	for range 5000 {
		st := randomStore(r, randomPath)
		st.Blind = false
		l, _, e := Walk(st, ".", nil)
		all := chapterInfos(st)
		if e != api.OK || !slices.Equal(slices.Sorted(slices.Values(l)), slices.Sorted(maps.Keys(all))) {
			t.Fatalf("%+v: %q %v", st, l, e)
		}
		in := map[string][]string{}
		for i, path := range l {
			if path == "." {
				continue
			}
			dir := chapterParent(path)
			in[dir] = append(in[dir], all[path].Name)
			if !slices.Contains(l[:i], dir) {
				t.Fatalf("%+v: %q", st, l)
			}
		}
		for path, info := range all {
			infos, _, e := ReadDir(st, path)
			if info.Dir != (e == api.OK) || !slices.Equal(names(infos), in[path]) {
				t.Fatalf("%+v %q: %v, not %q", st, path, infos, in[path])
			}
		}
	}
}

// P37.11: each path that a pattern gives is there, and has, element by element, what the pattern has. A "." ahead is an element that no path has.
func TestGlobGivesWhatIsThere(t *testing.T) {
	r := newRandom(9)
	met := 0
	for range 30000 {
		st := randomStore(r, randomPath)
		pattern := randomPattern(r)
		l, _, _ := Glob(st, pattern)
		elements := strings.Split(strings.TrimPrefix(pattern, "./"), "/")
		for _, path := range l {
			met++
			if _, _, e := Stat(st, path); e != api.OK {
				t.Fatalf("%+v %q: %q", st, pattern, path)
			}
			parts := strings.Split(path, "/")
			if len(parts) != len(elements) {
				t.Fatalf("%+v %q: %q", st, pattern, path)
			}
			for i, element := range elements {
				if is, e := Match(element, parts[i]); !is || e != api.OK {
					t.Fatalf("%+v %q: %q", st, pattern, path)
				}
			}
		}
	}
	if met < 3000 {
		t.Error(met)
	}
}

// P37.12: one store below another is the one below both; what is read in it is what is read by the whole path.
func TestSubOfSub(t *testing.T) {
	r := newRandom(10)
	met := 0
	for range 10000 {
		st := randomStore(r, randomPath)
		outer := somePath(r, st)
		sub, e := Sub(st, outer)
		if e != api.OK {
			continue
		}
		if !Fit(sub) {
			t.Fatalf("%+v %q: %+v", st, outer, sub)
		}
		inner := somePath(r, sub)
		both := outer + "/" + inner
		if outer == "." {
			both = inner
		} else if inner == "." {
			both = outer
		}
		one, e1 := Sub(sub, inner)
		two, e2 := Sub(st, both)
		if !sameStore(one, two) || e1 != e2 {
			t.Fatalf("%+v %q %q: %+v %v, not %+v %v", st, outer, inner, one, e1, two, e2)
		}
		data, _, e1 := ReadFile(sub, inner)
		whole, _, e2 := ReadFile(st, both)
		if data != whole || e1 != e2 {
			t.Fatalf("%+v %q %q: %q %v, not %q %v", st, outer, inner, data, e1, whole, e2)
		}
		met++
	}
	if met < 3000 {
		t.Error(met)
	}
}
