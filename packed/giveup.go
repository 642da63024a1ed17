package packed

import (
	"errors"

	"conduit/api"
)

// errGivenUp is what bytes are given up with that have not the form that is read, from however deep within them.
var errGivenUp = errors.New("the bytes are given up")

// Need gives bytes up, if what must be so is not.
func Need(is bool) {
	if !is {
		panic(errGivenUp)
	}
}

// Caught lets bytes be read: ErrForm, if they were given up.
func Caught(read func()) (fault api.Errno) {
	defer func() {
		switch came := recover(); came {
		case nil:
		case errGivenUp:
			fault = api.ErrForm
		default:
			// Nothing that bytes can have: to take it for a fault of theirs would hide it.
			panic(came)
		}
	}()
	read()
	return api.OK
}
