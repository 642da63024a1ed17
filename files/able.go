package files

import "conduit/api"

// A store has its capabilities in layers, one each, built on one that can only open: a type for each set of capabilities would be 32 types. What a layer can do is a closure over the store's files.

// log is what a store was asked.
type log struct{ asked []api.Asked }

func (l *log) note(way int, path string) { l.asked = append(l.asked, api.Asked{Way: way, Path: path}) }

// opens can open, and nothing else.
type opens func(path string) (opened, error)

func (f opens) open(path string) (opened, error) { return f(path) }

// layer is what all layers have of the store below.
type layer struct{ store }

func (l layer) under() store { return l.store }

type stats struct {
	layer
	how func(path string) (api.Info, error)
}

func (s stats) stat(path string) (api.Info, error) { return s.how(path) }

type reads struct {
	layer
	how func(path string) (string, error)
}

func (s reads) readFile(path string) (string, error) { return s.how(path) }

type lists struct {
	layer
	how func(path string) ([]api.Info, error)
}

func (s lists) readDir(path string) ([]api.Info, error) { return s.how(path) }

type globs struct {
	layer
	how func(pattern string) []string
}

func (s globs) glob(pattern string) []string { return s.how(pattern) }

type subs struct {
	layer
	how func(dir string) api.Store
}

func (s subs) sub(dir string) api.Store { return s.how(dir) }

// storeOf is a store that can do what its Caps say and no more, and the log of what it is asked.
func storeOf(st api.Store) (store, *log) {
	told := &log{}
	var s store = opens(func(path string) (opened, error) {
		told.note(api.WayOpen, path)
		return openIn(st, path)
	})
	for way := range api.NumFc {
		if st.Caps>>way&1 == 1 {
			s = able(way, layer{s}, st, told)
		}
	}
	return s, told
}

// openIn opens a path in a store, of which directories may be blind.
func openIn(st api.Store, path string) (opened, error) {
	o, err := look(st.Files, path)
	if err == nil && st.Blind && o.info().Dir {
		return blind{o}, nil
	}
	return o, err
}

// able is a layer with a capability. By itself nothing is blind.
func able(way int, on layer, st api.Store, told *log) store {
	find := func(path string) (opened, error) {
		told.note(way, path)
		return look(st.Files, path)
	}
	switch way {
	case api.FcStat:
		return stats{on, func(path string) (api.Info, error) {
			o, err := find(path)
			if err != nil {
				return api.Info{}, err
			}
			return o.info(), nil
		}}
	case api.FcReadFile:
		return reads{on, func(path string) (string, error) {
			o, err := find(path)
			if err != nil {
				return "", err
			}
			return read(o)
		}}
	case api.FcReadDir:
		return lists{on, func(path string) ([]api.Info, error) {
			o, err := find(path)
			if err != nil {
				return nil, err
			}
			return list(o)
		}}
	case api.FcGlob:
		return globs{on, func(pattern string) []string {
			told.note(way, pattern)
			bare, _ := storeOf(api.Store{Files: st.Files})
			return byHand(bare, pattern)
		}}
	}
	return subs{on, func(dir string) api.Store { return cut(st, dir, st.Caps) }}
}

// capsOfCut is what the store below a directory can do by its own, where none was asked for it.
const capsOfCut = 1<<api.FcReadFile | 1<<api.FcReadDir | 1<<api.FcGlob | 1<<api.FcSub

// cut is the store below a directory.
func cut(st api.Store, dir string, caps uint32) api.Store {
	out := api.Store{Caps: caps, Blind: st.Blind}
	for _, f := range st.Files {
		if rest, ok := below(f.Path, dir); ok {
			out.Files = append(out.Files, api.Entry{Path: rest, Data: f.Data})
		}
	}
	return out
}
