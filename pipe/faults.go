package pipe

import (
	"errors"

	"conduit/api"
)

// What reading, writing and copying end with. They are held by ==, so each is one value.
var (
	errEOF     = errors.New("the end")
	errSource  = errors.New("a source's own error")
	errShort   = errors.New("a sink took less than it was given")
	errInvalid = errors.New("a sink took more than it was given")
	errRoom    = errors.New("a sink is full")
	errTooSoon = errors.New("the end came too soon")
)

// number is an error's number. An end that nobody took as none came at once.
func number(err error) api.Errno {
	switch err {
	case errSource:
		return api.ErrSource
	case errShort:
		return api.ErrShort
	case errInvalid:
		return api.ErrInvalid
	case errRoom:
		return api.ErrRoom
	case errTooSoon:
		return api.ErrEnd
	case errEOF:
		return api.ErrNone
	}
	return api.OK
}

// butEnd is an error, where the end is none.
func butEnd(err error) error {
	if err == errEOF {
		return nil
	}
	return err
}
