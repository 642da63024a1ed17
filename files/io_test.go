package files

import (
	"errors"
	"io/fs"
	"path"
	"slices"
	"strings"
	"testing"
	"testing/fstest"

	"conduit/api"
)

// ioStore is a store as Go's io/fs has them, which tells what it is asked.
type ioStore struct {
	files fstest.MapFS
	blind bool
	asked *[]api.Asked
}

func (s ioStore) note(way int, path string) error {
	if !fs.ValidPath(path) {
		return fs.ErrInvalid
	}
	*s.asked = append(*s.asked, api.Asked{Way: way, Path: path})
	return nil
}

func (s ioStore) Open(path string) (fs.File, error) {
	if err := s.note(api.WayOpen, path); err != nil {
		return nil, err
	}
	f, err := s.files.Open(path)
	if err != nil || !s.blind {
		return f, err
	}
	return struct{ fs.File }{f}, nil
}

type ioStats struct{ ioStore }

func (s ioStats) Stat(path string) (fs.FileInfo, error) {
	if err := s.note(api.FcStat, path); err != nil {
		return nil, err
	}
	return fs.Stat(s.files, path)
}

type ioReads struct{ ioStore }

func (s ioReads) ReadFile(path string) ([]byte, error) {
	if err := s.note(api.FcReadFile, path); err != nil {
		return nil, err
	}
	return fs.ReadFile(s.files, path)
}

type ioLists struct{ ioStore }

func (s ioLists) ReadDir(path string) ([]fs.DirEntry, error) {
	if err := s.note(api.FcReadDir, path); err != nil {
		return nil, err
	}
	return fs.ReadDir(s.files, path)
}

type ioStatsLists struct{ ioStats }

func (s ioStatsLists) ReadDir(path string) ([]fs.DirEntry, error) {
	return ioLists{s.ioStore}.ReadDir(path)
}

type ioGlobs struct{ ioStore }

func (s ioGlobs) Glob(pattern string) ([]string, error) {
	*s.asked = append(*s.asked, api.Asked{Way: api.FcGlob, Path: pattern})
	return fs.Glob(struct{ fs.FS }{s.files}, pattern)
}

// ioOf is a store with those of its capabilities that a call may ask for; with FcStat and FcReadDir it may have both.
func ioOf(st api.Store, ways ...int) (fs.FS, *[]api.Asked) {
	s := ioStore{fstest.MapFS{}, st.Blind, new([]api.Asked)}
	for _, f := range st.Files {
		s.files[f.Path] = &fstest.MapFile{Data: []byte(f.Data)}
	}
	switch st.Caps & capsOf(ways...) {
	case capsOf(api.FcStat):
		return ioStats{s}, s.asked
	case capsOf(api.FcReadFile):
		return ioReads{s}, s.asked
	case capsOf(api.FcReadDir):
		return ioLists{s}, s.asked
	case capsOf(api.FcStat, api.FcReadDir):
		return ioStatsLists{ioStats{s}}, s.asked
	case capsOf(api.FcGlob):
		return ioGlobs{s}, s.asked
	}
	return s, s.asked
}

// ioNumber is the number of an error at a path. Of what a directory or a file can't do, io/fs tells by errors without a name.
func ioNumber(s fs.FS, path string, err error) api.Errno {
	var at *fs.PathError
	switch {
	case err == nil:
		return api.OK
	case !fs.ValidPath(path):
		return api.ErrPath
	case errors.Is(err, fs.ErrNotExist):
		return api.ErrMissing
	}
	info, _ := fs.Stat(s, path)
	switch {
	case errors.As(err, &at) && at.Op == "read":
		return api.ErrIsDir
	case info.IsDir():
		return api.ErrBlind
	}
	return api.ErrNotDir
}

func ioInfo(x fs.FileInfo) api.Info {
	return api.Info{Name: x.Name(), Dir: x.IsDir(), Size: int(x.Size())}
}

// ioCalls is what Go's io/fs answers.
func ioCalls(t *testing.T, st api.Store, path, pattern string, skip []string) []answers {
	t.Helper()
	bare, _ := ioOf(api.Store{Files: st.Files})
	var a, b, c, d, e, f answers

	s, asked := ioOf(st, api.FcStat)
	if info, err := fs.Stat(s, path); err != nil {
		a.e = ioNumber(bare, path, err)
	} else {
		a.info = ioInfo(info)
	}
	a.asked = slices.Clone(*asked)

	s, asked = ioOf(st, api.FcReadFile)
	data, err := fs.ReadFile(s, path)
	b.data, b.asked, b.e = string(data), *asked, ioNumber(bare, path, err)

	s, asked = ioOf(st, api.FcReadDir)
	l, err := fs.ReadDir(s, path)
	c.asked, c.e = *asked, ioNumber(bare, path, err)
	for _, x := range l {
		info, err := x.Info()
		if err != nil {
			t.Fatal(err)
		}
		c.infos = append(c.infos, ioInfo(info))
	}

	d = ioGlob(t, st, pattern)
	e = ioSub(st, path)

	s, asked = ioOf(st, api.FcStat, api.FcReadDir)
	last := path
	err = fs.WalkDir(s, path, func(path string, _ fs.DirEntry, err error) error {
		last = path
		if err != nil {
			return err
		}
		f.paths = append(f.paths, path)
		if slices.Contains(skip, path) {
			return fs.SkipDir
		}
		return nil
	})
	f.asked, f.e = *asked, ioNumber(bare, last, err)
	return []answers{a, b, c, d, e, f}
}

func ioGlob(t *testing.T, st api.Store, pattern string) (d answers) {
	t.Helper()
	if _, err := path.Match(pattern, ""); err != nil {
		d.e = api.ErrPattern
		return d
	}
	s, asked := ioOf(st, api.FcStat, api.FcReadDir)
	if st.Caps&capsOf(api.FcGlob) != 0 {
		s, asked = ioOf(st, api.FcGlob)
	}
	l, err := fs.Glob(s, pattern)
	if err != nil {
		t.Fatalf("%q: %v", pattern, err)
	}
	d.paths, d.asked = l, *asked
	return d
}

// ioSub is the files that io/fs finds below a directory, in the order in which the store has them.
func ioSub(st api.Store, dir string) (e answers) {
	bare, _ := ioOf(api.Store{Files: st.Files})
	info, err := fs.Stat(bare, dir)
	if err != nil {
		e.e = ioNumber(bare, dir, err)
		return e
	}
	if !info.IsDir() {
		e.e = api.ErrNotDir
		return e
	}
	e.store.Blind, e.store.Caps = st.Blind, st.Caps
	if st.Caps&capsOf(api.FcSub) == 0 {
		e.store.Caps = capsOf(api.FcReadFile, api.FcReadDir, api.FcGlob, api.FcSub)
	}
	sub, _ := fs.Sub(bare, dir)
	for _, f := range st.Files {
		within := f.Path
		if dir != "." {
			within = strings.TrimPrefix(f.Path, dir+"/")
		}
		if data, err := fs.ReadFile(sub, within); err == nil && (dir == "." || within != f.Path) {
			e.store.Files = append(e.store.Files, api.Entry{Path: within, Data: string(data)})
		}
	}
	return e
}

// P37.3 to P37.8: all is as Go's io/fs does it, where bytes are runes and nothing is cut in the midst.
func TestAsIo(t *testing.T) {
	r := newRandom(1)
	var met [8]int
	for range 30000 {
		st := randomStore(r, plainPath)
		at, pattern := somePath(r, st), plainPattern(r)
		skip := randomSkip(r, st)
		got, said := calls(st, at, pattern, skip), ioCalls(t, st, at, pattern, skip)
		for i := range got {
			if !same(got[i], said[i]) {
				t.Fatalf("call %d, %+v %q %q %q: %+v, not %+v", i, st, at, pattern, skip, got[i], said[i])
			}
			if e := int(got[i].e); e >= 370 {
				met[e-370]++
			}
		}
		met[7] += min(1, len(got[3].paths))
	}
	for e, n := range met {
		if e != 6 && n < 500 {
			t.Error(e, n)
		}
	}
}

// P37.1: paths are those of Go's io/fs, if they are not too long.
func TestValidAsIo(t *testing.T) {
	r := newRandom(2)
	for range 50000 {
		var b strings.Builder
		for range r.IntN(6) {
			b.WriteString(pick(r, "/", "/", ".", "..", "a", "é", "\xff", "\x00", `\`, strings.Repeat("a", 400)))
		}
		if p := b.String(); Valid(p) != (fs.ValidPath(p) && len(p) <= 1024) {
			t.Fatalf("%q", p)
		}
	}
}

// each calls with every row of these bytes, up to so many.
func each(bytes string, most int, call func(s string)) {
	call("")
	for i := range bytes {
		if most > 0 {
			each(bytes, most-1, func(s string) { call(s + bytes[i:i+1]) })
		}
	}
}

// P37.2: short patterns, all of them, have the names that Go's path package says, where no class comes to a "/".
func TestMatchAsPath(t *testing.T) {
	var names []string
	each("ab]^-*", 2, func(s string) { names = append(names, s) })
	patterns := 0
	each(`ab*?[]^-\`, 5, func(s string) {
		for _, name := range names {
			is, e := Match(s, name)
			said, err := path.Match(s, name)
			if is != said || (e == api.ErrPattern) != (err != nil) || e != api.OK && e != api.ErrPattern {
				t.Fatalf("%q %q: %v %v, not %v %v", s, name, is, e, said, err)
			}
		}
		patterns++
	})
	if patterns < 9*9*9*9*9 {
		t.Error(patterns)
	}
}

// P37.2: likewise of any bytes, each of which the path package is given as the rune of that number.
func TestMatchBytesAsPath(t *testing.T) {
	r := newRandom(3)
	had := 0
	for range 300000 {
		s, name := randomBytes(r, 12), strings.ReplaceAll(randomBytes(r, 5), "/", "")
		is, e := Match(s, name)
		said, err := path.Match(wide(s), wide(name))
		if is != said || (e == api.ErrPattern) != (err != nil) {
			t.Fatalf("%q %q: %v %v, not %v %v", s, name, is, e, said, err)
		}
		if is {
			had++
		}
	}
	if had < 3000 {
		t.Error(had)
	}
}
