package files

import (
	"math"
	"strconv"
	"strings"
	"testing"

	"conduit/api"
)

// P37.1: what is a path.
func TestValid(t *testing.T) {
	for _, path := range []string{".", "a", "a/b", "...", "a/...", ".a", "a.", "..a/b..", " ", `\`, "a\x00b", "*", "[", "é/ü", "\u2028", text(1024), text(1022) + "/a", strings.Repeat("a/", 511) + "aa"} {
		if !Valid(path) {
			t.Errorf("%.40q", path)
		}
	}
	for _, path := range []string{"", "/", "//", "..", "./", "./.", "./a", "a/.", "a/./b", "../a", "a/..", "a/../b", "/a", "a/", "a//b", "/.", "\xff", "a/\xc3", "\xed\xa0\x80", text(1025), text(1023) + "/a", strings.Repeat("é", 513)} {
		if Valid(path) {
			t.Errorf("%.40q", path)
		}
	}
}

// P37.1: which stores are fit.
func TestFit(t *testing.T) {
	for _, st := range []api.Store{
		{},
		{Files: []api.Entry{}, Blind: true, Caps: 31},
		given(0),
		of(0, false, "a", "b", "ab", "a-b", "ab-", "a.b"),
		of(0, false, "a-", "a/b", "a0"),
		of(0, false, "a/b", "a/c", "ab/c"),
		of(0, false, "a/b/c", "a/bc"),
		of(0, false, "x/.../a", "..."),
		of(0, false, text(1024), text(1023)),
		of(0, false, "a="+text(api.MaxBytes)),
		of(0, false, "a=\xff\x00"),
	} {
		if !Fit(st) {
			t.Errorf("%.99v", st)
		}
	}
	for _, st := range []api.Store{
		of(0, false, ""),
		of(0, false, "."),
		of(0, false, "a", "."),
		of(0, false, "a/"),
		of(0, false, "b", "/a"),
		of(0, false, "a/../b"),
		of(0, false, "\xff"),
		of(0, false, text(1025)),
		of(0, false, "a", "a"),
		of(0, false, "a=1", "b", "a=2"),
		of(0, false, "a", "a/b"),
		of(0, false, "a/b", "a"),
		of(0, false, "a/b/c/d", "x", "a/b"),
		of(0, false, "a/b", "x", "a/b/c/d"),
		of(0, false, "a", "a-b", "a/b"),
		of(0, false, "a="+text(api.MaxBytes+1)),
		of(0, false, "b", "a="+text(api.MaxBytes+1)),
		{Caps: 32},
		{Caps: 33},
		{Caps: 1 << 31},
		{Caps: math.MaxUint32},
	} {
		if Fit(st) {
			t.Errorf("%.99v", st)
		}
	}
}

// P37.1: how many files there may be.
func TestFitMany(t *testing.T) {
	var st api.Store
	for i := range api.MaxFiles {
		st.Files = append(st.Files, api.Entry{Path: "a/" + strconv.Itoa(i)})
	}
	if !Fit(st) {
		t.Error(len(st.Files))
	}
	st.Files = append(st.Files, api.Entry{Path: "b"})
	if Fit(st) {
		t.Error(len(st.Files))
	}
}

// P37.1: files in any order, each against all others.
func TestFitAny(t *testing.T) {
	r := newRandom(5)
	var met [2]int
	for range 50000 {
		st := api.Store{Caps: uint32(r.IntN(34))}
		all := map[string]int{}
		is := st.Caps < 32
		for range r.IntN(5) {
			path := randomPath(r)
			if r.IntN(30) == 0 {
				path += pick(r, "/", "/.", "\xff", "/../a")
			}
			st.Files = append(st.Files, api.Entry{Path: path})
			all[path]++
			is = is && all[path] == 1 && chapterValid(path)
		}
		for _, f := range st.Files {
			for _, dir := range beginnings(f.Path) {
				is = is && all[dir] == 0
			}
		}
		if Fit(st) != is {
			t.Fatalf("%+v: %v", st, !is)
		}
		if is {
			met[1]++
		} else {
			met[0]++
		}
	}
	if min(met[0], met[1]) < 5000 {
		t.Error(met)
	}
}
