package files

import (
	"maps"
	"math/rand/v2"
	"regexp"
	"slices"
	"strings"
	"testing"
	"unicode/utf8"

	"conduit/api"
)

func newRandom(seed uint64) *rand.Rand { return rand.New(rand.NewPCG(seed, 37)) }

func pick[T any](r *rand.Rand, l ...T) T { return l[r.IntN(len(l))] }

// of is a store of files, each "path=data".
func of(caps uint32, isBlind bool, files ...string) api.Store {
	st := api.Store{Caps: caps, Blind: isBlind}
	for _, f := range files {
		path, data, _ := strings.Cut(f, "=")
		st.Files = append(st.Files, api.Entry{Path: path, Data: data})
	}
	return st
}

// given is the store of the chapter's examples, with those capabilities.
func given(caps uint32) api.Store { return of(caps, false, "a/x=1", "a/y=22", "b=333") }

func blindly(st api.Store) api.Store {
	st.Blind = true
	return st
}

// capsOf is the set of those capabilities.
func capsOf(ways ...int) (caps uint32) {
	for _, way := range ways {
		caps |= 1 << way
	}
	return caps
}

// asks is that those were asked for, in that order, each by that way.
func asks(way int, paths ...string) (l []api.Asked) {
	for _, path := range paths {
		l = append(l, api.Asked{Way: way, Path: path})
	}
	return l
}

func text(size int) string { return strings.Repeat("a", size) }

// randomPath is a path of elements that are alike enough to meet.
func randomPath(r *rand.Rand) string {
	l := make([]string, 1+r.IntN(4))
	for i := range l {
		l[i] = pick(r, "a", "a", "b", "b", "ab", "a-b", "c", "*", "[", "]", `\`, "é", "...", "^")
	}
	return strings.Join(l, "/")
}

// plainPath has no byte but letters.
func plainPath(r *rand.Rand) string {
	l := make([]string, 1+r.IntN(4))
	for i := range l {
		l[i] = pick(r, "a", "b", "ab", "ba", "c", "abc")
	}
	return strings.Join(l, "/")
}

// randomStore is a store of such paths.
func randomStore(r *rand.Rand, path func(r *rand.Rand) string) api.Store {
	st := api.Store{Caps: uint32(r.IntN(32)), Blind: r.IntN(4) == 0}
	for range r.IntN(9) {
		more := st
		more.Files = append(slices.Clone(st.Files), api.Entry{Path: path(r), Data: text(r.IntN(4))})
		if Fit(more) {
			st = more
		}
	}
	return st
}

// somePath is mostly a path that the store has something at.
func somePath(r *rand.Rand, st api.Store) string {
	l := slices.Sorted(maps.Keys(chapterInfos(st)))
	switch r.IntN(6) {
	case 0:
		return pick(r, "", "/", "a/", "/a", "a//b", "..", "./a", "a/..", "\xff", "b/./a")
	case 1:
		return randomPath(r)
	}
	return pick(r, l...)
}

func randomPattern(r *rand.Rand) string {
	var b strings.Builder
	for range r.IntN(7) {
		b.WriteString(pick(r, "*", "*", "?", "/", "/", "a", "b", "-", "[ab]", "[^a]", "[a-c]", "[c-a]", `\a`, `\*`, `\/`, "[/a]", "[a/b]", "[/[]", "[^/", `[\]a]`, "[", "]", `\`, "^", ".", "é", "..."))
	}
	return b.String()
}

// plainPattern is one that is read by runes as it is read by bytes, and never cut in the midst of a part.
func plainPattern(r *rand.Rand) string {
	var b strings.Builder
	for range r.IntN(7) {
		b.WriteString(pick(r, "*", "*", "?", "/", "/", "a", "b", "[ab]", "[^a]", "[a-c]", "[c-a]", `\a`))
	}
	if r.IntN(8) == 0 {
		b.WriteByte('[')
	}
	return b.String()
}

func randomSkip(r *rand.Rand, st api.Store) (l []string) {
	for range r.IntN(3) {
		l = append(l, somePath(r, st))
	}
	return l
}

// From here on the chapter's words stand once more.

func chapterValid(path string) bool {
	if path == "." {
		return true
	}
	ok := utf8.ValidString(path) && len(path) <= 1024
	for _, element := range strings.Split(path, "/") {
		ok = ok && len(element) >= 1 && element != "." && element != ".."
	}
	return ok
}

// beginnings is all beginnings of a path, by elements, but itself.
func beginnings(path string) (l []string) {
	for i := range path {
		if path[i] == '/' {
			l = append(l, path[:i])
		}
	}
	return l
}

// chapterInfos is what is told of each path of a store.
func chapterInfos(st api.Store) map[string]api.Info {
	last := func(path string) string {
		l := strings.Split(path, "/")
		return l[len(l)-1]
	}
	all := map[string]api.Info{".": {Name: ".", Dir: true}}
	for _, f := range st.Files {
		all[f.Path] = api.Info{Name: last(f.Path), Size: len(f.Data)}
		for _, dir := range beginnings(f.Path) {
			all[dir] = api.Info{Name: last(dir), Dir: true}
		}
	}
	return all
}

// chapterAsked is how a store is asked for a path, where it may have that capability.
func chapterAsked(st api.Store, way int, path string) []api.Asked {
	if st.Caps&(1<<way) == 0 {
		way = api.WayOpen
	}
	return asks(way, path)
}

// chapterAt is what the three calls for one path have in common.
func chapterAt(st api.Store, way int, path string) (api.Info, []api.Asked, api.Errno) {
	if !chapterValid(path) {
		return api.Info{}, nil, api.ErrPath
	}
	info, ok := chapterInfos(st)[path]
	if !ok {
		return api.Info{}, chapterAsked(st, way, path), api.ErrMissing
	}
	return info, chapterAsked(st, way, path), api.OK
}

func chapterStat(st api.Store, path string) (api.Info, []api.Asked, api.Errno) {
	return chapterAt(st, api.FcStat, path)
}

func chapterReadFile(st api.Store, path string) (string, []api.Asked, api.Errno) {
	info, asked, e := chapterAt(st, api.FcReadFile, path)
	if e != api.OK {
		return "", asked, e
	}
	if info.Dir {
		return "", asked, api.ErrIsDir
	}
	for _, f := range st.Files {
		if f.Path == path {
			return f.Data, asked, api.OK
		}
	}
	panic("no such file")
}

func chapterReadDir(st api.Store, path string) (l []api.Info, asked []api.Asked, e api.Errno) {
	info, asked, e := chapterAt(st, api.FcReadDir, path)
	if e != api.OK {
		return nil, asked, e
	}
	if !info.Dir {
		return nil, asked, api.ErrNotDir
	}
	if asked[0].Way == api.WayOpen && st.Blind {
		return nil, asked, api.ErrBlind
	}
	all := chapterInfos(st)
	for _, p := range slices.Sorted(maps.Keys(all)) {
		if p != "." && chapterParent(p) == path {
			l = append(l, all[p])
		}
	}
	return l, asked, api.OK
}

// chapterParent is the directory that a path lies in. Paths of one directory rise as their names do.
func chapterParent(path string) string {
	l := strings.Split(path, "/")
	if len(l) == 1 {
		return "."
	}
	return strings.Join(l[:len(l)-1], "/")
}

// The chapter's patterns, as a regular expression over bytes, each of which is written as the rune of that number.
const (
	chapterByte  = `(?:\\.|[^\\\-\]])`
	chapterFirst = `(?:\\.|[^\\\-\]^])`
	chapterRange = chapterByte + `(?:-` + chapterByte + `)?`
	chapterClass = `\[(?:\^(?:` + chapterRange + `)+|` + chapterFirst + `(?:-` + chapterByte + `)?(?:` + chapterRange + `)*)\]`
	chapterPart  = `(?:\*|\?|` + chapterClass + `|\\.|[^*?\[\\])`
)

var (
	chapterPattern = regexp.MustCompile(`(?s)^` + chapterPart + `*$`)
	chapterParts   = regexp.MustCompile(`(?s)` + chapterPart)
	chapterRanges  = regexp.MustCompile(`(?s)` + chapterRange)
)

// wide writes each byte as the rune of that number.
func wide(s string) string {
	l := make([]rune, len(s))
	for i := range len(s) {
		l[i] = rune(s[i])
	}
	return string(l)
}

func chapterMatch(pattern, name string) (bool, api.Errno) {
	if !chapterPattern.MatchString(wide(pattern)) {
		return false, api.ErrPattern
	}
	said := `(?s)^`
	for _, part := range chapterParts.FindAllString(wide(pattern), -1) {
		switch {
		case part == "*":
			said += "[^/]*"
		case part == "?":
			said += "[^/]"
		case strings.HasPrefix(part, "["):
			said += chapterHas(part[1 : len(part)-1])
		default:
			said += regexp.QuoteMeta(strings.TrimPrefix(part, `\`))
		}
	}
	return regexp.MustCompile(said + "$").MatchString(wide(name)), api.OK
}

// chapterHas is what a class has, as a regular expression.
func chapterHas(class string) string {
	class, not := strings.CutPrefix(class, "^")
	var has [256]bool
	for _, part := range chapterRanges.FindAllString(class, -1) {
		var l []rune
		for _, c := range regexp.MustCompile(`(?s)`+chapterByte).FindAllString(part, -1) {
			l = append(l, []rune(c)[len([]rune(c))-1])
		}
		for c := l[0]; c <= l[len(l)-1]; c++ {
			has[c] = true
		}
	}
	said := "(?:[^\\x{0}-\\x{10FFFF}]"
	for c := range 256 {
		if has[c] != not && c != '/' {
			said += "|" + regexp.QuoteMeta(string(rune(c)))
		}
	}
	return said + ")"
}

// chapterByHand goes from the last element to the first one, as the chapter does.
func chapterByHand(st api.Store, pattern string) (paths []string, asked []api.Asked) {
	const special = `*?[\`
	if !strings.ContainsAny(pattern, special) {
		_, asked, e := chapterStat(st, pattern)
		if e != api.OK {
			return nil, asked
		}
		return []string{pattern}, asked
	}
	dir, file := ".", pattern
	if i := strings.LastIndex(pattern, "/"); i == 0 {
		dir, file = "/", pattern[1:]
	} else if i > 0 {
		dir, file = pattern[:i], pattern[i+1:]
	}
	dirs := []string{dir}
	if strings.ContainsAny(dir, special) {
		dirs, asked = chapterByHand(st, dir)
	}
	for _, d := range dirs {
		l, more, e := chapterReadDir(st, d)
		asked = append(asked, more...)
		if e != api.OK {
			continue
		}
		for _, x := range l {
			if has, e := chapterMatch(file, x.Name); e != api.OK || !has {
				continue
			}
			if d == "." {
				paths = append(paths, x.Name)
			} else {
				paths = append(paths, d+"/"+x.Name)
			}
		}
	}
	return paths, asked
}

func chapterGlob(st api.Store, pattern string) ([]string, []api.Asked, api.Errno) {
	if _, e := chapterMatch(pattern, ""); e != api.OK {
		return nil, nil, e
	}
	if st.Caps&(1<<api.FcGlob) == 0 {
		paths, asked := chapterByHand(st, pattern)
		return paths, asked, api.OK
	}
	st.Blind = false
	paths, _ := chapterByHand(st, pattern)
	return paths, asks(api.FcGlob, pattern), api.OK
}

func chapterSub(st api.Store, dir string) (api.Store, api.Errno) {
	info, _, e := chapterStat(st, dir)
	if e != api.OK {
		return api.Store{}, e
	}
	if !info.Dir {
		return api.Store{}, api.ErrNotDir
	}
	out := api.Store{Blind: st.Blind, Caps: st.Caps}
	if st.Caps&(1<<api.FcSub) == 0 {
		out.Caps = capsOf(api.FcReadFile, api.FcReadDir, api.FcGlob, api.FcSub)
	}
	for _, f := range st.Files {
		if dir == "." {
			out.Files = append(out.Files, f)
		} else if slices.Contains(beginnings(f.Path), dir) {
			out.Files = append(out.Files, api.Entry{Path: f.Path[len(dir)+1:], Data: f.Data})
		}
	}
	return out, api.OK
}

// chapterWalk keeps what it will come to yet, and for each of these the directory that it was found in.
func chapterWalk(st api.Store, root string, skip []string) (paths []string, asked []api.Asked, e api.Errno) {
	type due struct {
		path, from string
		info       api.Info
	}
	info, asked, e := chapterStat(st, root)
	if e != api.OK {
		return nil, asked, e
	}
	rest := []due{{root, "", info}}
	for len(rest) > 0 {
		at := rest[0]
		rest = rest[1:]
		paths = append(paths, at.path)
		skipped := slices.Contains(skip, at.path)
		if skipped && !at.info.Dir {
			rest = slices.DeleteFunc(rest, func(d due) bool { return d.from == at.from })
		}
		if skipped || !at.info.Dir {
			continue
		}
		l, more, e := chapterReadDir(st, at.path)
		asked = append(asked, more...)
		if e != api.OK {
			return paths, asked, e
		}
		var inside []due
		for _, x := range l {
			path := x.Name
			if at.path != "." {
				path = at.path + "/" + x.Name
			}
			inside = append(inside, due{path, at.path, x})
		}
		rest = slices.Concat(inside, rest)
	}
	return paths, asked, api.OK
}

// answers is all that a call answers.
type answers struct {
	info  api.Info
	data  string
	infos []api.Info
	paths []string
	store api.Store
	asked []api.Asked
	e     api.Errno
}

func sameStore(a, b api.Store) bool {
	return slices.Equal(a.Files, b.Files) && a.Caps == b.Caps && a.Blind == b.Blind
}

// sameBut tells whether answers are alike, but what was asked.
func sameBut(a, b answers) bool {
	return a.info == b.info && a.data == b.data && slices.Equal(a.infos, b.infos) && slices.Equal(a.paths, b.paths) && sameStore(a.store, b.store) && a.e == b.e
}

func same(a, b answers) bool { return sameBut(a, b) && slices.Equal(a.asked, b.asked) }

// calls is what the calls answer of a store.
func calls(st api.Store, path, pattern string, skip []string) (l []answers) {
	var a, b, c, d, e, f answers
	a.info, a.asked, a.e = Stat(st, path)
	b.data, b.asked, b.e = ReadFile(st, path)
	c.infos, c.asked, c.e = ReadDir(st, path)
	d.paths, d.asked, d.e = Glob(st, pattern)
	e.store, e.e = Sub(st, path)
	f.paths, f.asked, f.e = Walk(st, path, skip)
	return []answers{a, b, c, d, e, f}
}

func chapterCalls(st api.Store, path, pattern string, skip []string) (l []answers) {
	var a, b, c, d, e, f answers
	a.info, a.asked, a.e = chapterStat(st, path)
	b.data, b.asked, b.e = chapterReadFile(st, path)
	c.infos, c.asked, c.e = chapterReadDir(st, path)
	d.paths, d.asked, d.e = chapterGlob(st, pattern)
	e.store, e.e = chapterSub(st, path)
	f.paths, f.asked, f.e = chapterWalk(st, path, skip)
	return []answers{a, b, c, d, e, f}
}

// asSaid holds all calls against the chapter.
func asSaid(t testing.TB, st api.Store, path, pattern string, skip []string) {
	t.Helper()
	if !Fit(st) {
		t.Fatalf("not fit: %+v", st)
	}
	got, said := calls(st, path, pattern, skip), chapterCalls(st, path, pattern, skip)
	for i := range got {
		if !same(got[i], said[i]) {
			t.Fatalf("call %d, %+v %q %q %q: %+v, not %+v", i, st, path, pattern, skip, got[i], said[i])
		}
	}
}
