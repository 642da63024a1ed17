// Package panics is how handlers panic: with values of types of their own, so that who catches one tells by its type what it was.
package panics

import (
	"conduit/api"
	"conduit/value"
)

// What a handler panics with, beside an error (a value.Failure).
type (
	Assertion  int64 // one that does not hold: the kind that is there, or the method that is not
	NilPointer struct{}
	Index      int64
	Comparison struct{} // of what can't be compared, by == or as keys of a map
	Division   struct{}
	Own        int64
)

// As does something of which the language itself may panic, and panics with cause in its stead: what the language panics with has no type that would tell one from another.
func As[T any](cause any, do func() T) T {
	defer func() {
		if recover() != nil {
			panic(cause)
		}
	}()
	return do()
}

// Caught is what something comes to, be it a panic.
func Caught(do func() api.Result) (r api.Result) {
	defer func() {
		if came := recover(); came != nil {
			r = api.Result{Err: api.ErrPanic, Panic: told(came)}
		}
	}()
	return do()
}

// told is what a panic was. One that is none of these is no handler's, and goes on.
func told(came any) api.Panic {
	switch p := came.(type) {
	case Assertion:
		return api.Panic{Kind: api.PanAssert, Num: int64(p)}
	case NilPointer:
		return api.Panic{Kind: api.PanNil}
	case Index:
		return api.Panic{Kind: api.PanIndex, Num: int64(p)}
	case Comparison:
		return api.Panic{Kind: api.PanCompare}
	case Division:
		return api.Panic{Kind: api.PanDivide}
	case Own:
		return api.Panic{Kind: api.PanOwn, Num: int64(p)}
	case value.Failure:
		return api.Panic{Kind: api.PanError, Num: p.Code}
	}
	panic(came)
}
