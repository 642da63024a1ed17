package files

import (
	"errors"

	"conduit/api"
)

// What asking a store, or walking through it, ends with.
var (
	errPath    = errors.New("no path")
	errMissing = errors.New("nothing lies there")
	errIsDir   = errors.New("a directory, not a file")
	errNotDir  = errors.New("a file, not a directory")
	errBlind   = errors.New("a directory that can't be read")
	errLeftOut = errors.New("left out") // no fault: what comes next there is passed over
)

// number is an error's number.
func number(err error) api.Errno {
	switch {
	case errors.Is(err, errPath):
		return api.ErrPath
	case errors.Is(err, errMissing):
		return api.ErrMissing
	case errors.Is(err, errIsDir):
		return api.ErrIsDir
	case errors.Is(err, errNotDir):
		return api.ErrNotDir
	case errors.Is(err, errBlind):
		return api.ErrBlind
	}
	return api.OK
}
