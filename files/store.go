package files

import "conduit/api"

// store is what can open a path. What else it can do is found by asking.
type store interface {
	open(path string) (opened, error)
}

type statter interface {
	store
	stat(path string) (api.Info, error)
}

type reader interface {
	store
	readFile(path string) (string, error)
}

type lister interface {
	store
	readDir(path string) ([]api.Info, error)
}

type globber interface {
	store
	glob(pattern string) []string
}

type subber interface {
	store
	sub(dir string) api.Store
}

// over is built on another store, which it hands out.
type over interface {
	store
	under() store
}

// as finds who can do it: the store itself, or one that it is built on.
func as[T store](s store) (T, bool) {
	if able, ok := s.(T); ok {
		return able, true
	}
	if o, ok := s.(over); ok {
		return as[T](o.under())
	}
	var none T
	return none, false
}

func stat(s store, path string) (api.Info, error) {
	if !Valid(path) {
		return api.Info{}, errPath
	}
	if able, ok := as[statter](s); ok {
		return able.stat(path)
	}
	o, err := s.open(path)
	if err != nil {
		return api.Info{}, err
	}
	return o.info(), nil
}

func readFile(s store, path string) (string, error) {
	if !Valid(path) {
		return "", errPath
	}
	if able, ok := as[reader](s); ok {
		return able.readFile(path)
	}
	o, err := s.open(path)
	if err != nil {
		return "", err
	}
	return read(o)
}

func readDir(s store, path string) ([]api.Info, error) {
	if !Valid(path) {
		return nil, errPath
	}
	if able, ok := as[lister](s); ok {
		return able.readDir(path)
	}
	o, err := s.open(path)
	if err != nil {
		return nil, err
	}
	return list(o)
}
