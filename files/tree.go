package files

import (
	"cmp"
	"slices"
	"strings"

	"conduit/api"
)

// opened is what was found at a path: it tells what it is. Files can be read, directories listed, if they are not blind: who can is found by asking.
type opened interface{ info() api.Info }

type readable interface {
	opened
	data() string
}

type listed interface {
	opened
	list() []api.Info
}

// file is a file.
type file struct{ entry api.Entry }

func (f file) info() api.Info {
	return api.Info{Name: nameOf(f.entry.Path), Size: len(f.entry.Data)}
}

func (f file) data() string { return f.entry.Data }

// directory is a directory among files.
type directory struct {
	path  string
	files []api.Entry
}

func (d directory) info() api.Info { return api.Info{Name: nameOf(d.path), Dir: true} }

// list has each name once, however many files lie below it.
func (d directory) list() []api.Info {
	var l []api.Info
	for _, f := range d.files {
		if rest, ok := below(f.Path, d.path); ok {
			l = append(l, within(rest, len(f.Data)))
		}
	}
	slices.SortFunc(l, func(a, b api.Info) int { return cmp.Compare(a.Name, b.Name) })
	return slices.Compact(l)
}

// within is what lies in a directory, where a file of so many bytes has that path from there on.
func within(path string, size int) api.Info {
	name, _, deeper := strings.Cut(path, "/")
	if deeper {
		return api.Info{Name: name, Dir: true}
	}
	return api.Info{Name: name, Size: size}
}

// blind is a directory that can't be listed: it is embedded as what only tells what it is.
type blind struct{ opened }

// look finds what lies at a path.
func look(files []api.Entry, path string) (opened, error) {
	if path == "." {
		return directory{path, files}, nil
	}
	for _, f := range files {
		if f.Path == path {
			return file{f}, nil
		}
		if isBelow(f.Path, path) {
			return directory{path, files}, nil
		}
	}
	return nil, errMissing
}

// read is what stands in a file.
func read(o opened) (string, error) {
	if f, ok := o.(readable); ok {
		return f.data(), nil
	}
	return "", errIsDir
}

// list is what lies in a directory.
func list(o opened) ([]api.Info, error) {
	if d, ok := o.(listed); ok {
		return d.list(), nil
	}
	if o.info().Dir {
		return nil, errBlind
	}
	return nil, errNotDir
}
