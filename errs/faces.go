package errs

import (
	"errors"

	"conduit/api"
)

// What an error may have beside its words.
type (
	timing interface {
		error
		Timeout() bool
	}
	passing interface {
		error
		Temporary() bool
	}
	coded interface {
		error
		Code() int64
	}
	network interface {
		timing
		passing
	}
	wrapping interface {
		error
		Unwrap() error
	}
	gathering interface {
		error
		Unwrap() []error
	}
	likening interface {
		error
		Is(target error) bool
	}
	posing interface {
		error
		As(target any) bool
	}
)

func answers(e error, face int) bool {
	ok := false
	switch face {
	case api.EfTimeout:
		_, ok = e.(timing)
	case api.EfTemporary:
		_, ok = e.(passing)
	case api.EfCoded:
		_, ok = e.(coded)
	case api.EfNet:
		_, ok = e.(network)
	case api.EfUnwrap:
		_, ok = e.(wrapping)
	case api.EfUnwraps:
		_, ok = e.(gathering)
	case api.EfIs:
		_, ok = e.(likening)
	case api.EfAs:
		_, ok = e.(posing)
	}
	return ok
}

// first is the first error that is a T, or gives itself out as one; nil, if there is none.
func first[T error](e error) error {
	var found T
	if errors.As(e, &found) {
		return found
	}
	return nil
}

func firstOf(e error, kind int) error {
	switch kind {
	case api.EkPlain:
		return first[simple](e)
	case api.EkPtr, api.EkNoPtr:
		return first[*pointed](e)
	case api.EkWrap:
		return first[*wrapper](e)
	case api.EkMany:
		return first[*several](e)
	case api.EkHold:
		return first[holder](e)
	case api.EkList:
		return first[codes](e)
	case api.EkLike:
		return first[*likes](e)
	case api.EkAs:
		return first[*poser](e)
	case api.EkTime:
		return first[timed](e)
	}
	return nil
}

func firstWith(e error, face int) error {
	switch face {
	case api.EfTimeout:
		return first[timing](e)
	case api.EfTemporary:
		return first[passing](e)
	case api.EfCoded:
		return first[coded](e)
	case api.EfNet:
		return first[network](e)
	case api.EfUnwrap:
		return first[wrapping](e)
	case api.EfUnwraps:
		return first[gathering](e)
	case api.EfIs:
		return first[likening](e)
	case api.EfAs:
		return first[posing](e)
	}
	return nil
}

// told is what a handler's error is told as.
func told(e error) api.Result {
	if e == nil {
		return api.Result{}
	}
	if p, ok := e.(*pointed); ok && p == nil {
		return api.Result{Err: api.ErrTyped}
	}
	var late timing
	if errors.As(e, &late) && late.Timeout() {
		return api.Result{Err: api.ErrLate}
	}
	var known coded
	if errors.As(e, &known) {
		return api.Result{Err: api.ErrHandler, Code: known.Code()}
	}
	return api.Result{Err: api.ErrHandler, Code: -1}
}
