package want

import (
	"conduit/api"
	"conduit/value"
)

// question is a type or an interface that a value is asserted to, in the form with two values or in the one that panics.
type question interface {
	holds(v any) bool
	must(v any) any
}

type of[T any] struct{}

func (of[T]) holds(v any) bool {
	_, ok := v.(T)
	return ok
}

func (of[T]) must(v any) any { return v.(T) }

// nobody is a type that no value has: what is no type and no interface is asserted to it.
type nobody struct{}

// nilPointer is a question that no assertion asks alone: KPtr and KNoPtr have one type.
type nilPointer struct{}

func (nilPointer) holds(v any) bool { return v == any((*value.Box)(nil)) }

func (q nilPointer) must(v any) any {
	if q.holds(v) {
		return v
	}
	return of[nobody]{}.must(v)
}

func typeOf(kind int) question {
	switch kind {
	case api.KInt:
		return of[value.Whole]{}
	case api.KKey:
		return of[value.Key]{}
	case api.KFloat:
		return of[value.Float]{}
	case api.KText:
		return of[value.Text]{}
	case api.KName:
		return of[value.Name]{}
	case api.KBool:
		return of[value.Truth]{}
	case api.KBytes:
		return of[value.Octets]{}
	case api.KList:
		return of[value.Row]{}
	case api.KPair:
		return of[value.Pair]{}
	case api.KErr:
		return of[value.Failure]{}
	case api.KPtr:
		return of[*value.Box]{}
	case api.KNoPtr:
		return nilPointer{}
	case api.KUnit:
		return of[value.Unit]{}
	}
	return of[nobody]{}
}

type (
	labelled interface {
		value.Sized
		value.Named
	}
	measured interface {
		value.Sized
		value.Ordered
	}
	number interface {
		value.Ordered
		value.Adding
	}
	whole interface {
		labelled
		measured
	}
)

// Which methods an interface has, a bit each: no assertion tells it.
const (
	ofSized    = 1 << api.MSize
	ofNamed    = 1 << api.MName
	ofFailing  = 1 << api.MError
	ofOpening  = 1 << api.MOpen
	ofOrdered  = 1 << api.MLess
	ofAdding   = 1 << api.MAdd
	ofLabelled = ofSized | ofNamed
	ofMeasured = ofSized | ofOrdered
	ofNumber   = ofOrdered | ofAdding
	ofWhole    = ofLabelled | ofMeasured
)

type asked struct {
	question
	methods uint8
}

func interfaceOf(face int) asked {
	switch face {
	case api.FSized:
		return asked{of[value.Sized]{}, ofSized}
	case api.FNamed:
		return asked{of[value.Named]{}, ofNamed}
	case api.FFailing:
		return asked{of[value.Failing]{}, ofFailing}
	case api.FOpening:
		return asked{of[value.Opening]{}, ofOpening}
	case api.FOrdered:
		return asked{of[value.Ordered]{}, ofOrdered}
	case api.FAdding:
		return asked{of[value.Adding]{}, ofAdding}
	case api.FLabelled:
		return asked{of[labelled]{}, ofLabelled}
	case api.FMeasured:
		return asked{of[measured]{}, ofMeasured}
	case api.FNumber:
		return asked{of[number]{}, ofNumber}
	case api.FWhole:
		return asked{of[whole]{}, ofWhole}
	}
	return asked{question: of[nobody]{}}
}

// failure has the methods of the library's runtime.Error: the error of an assertion that does not hold has them.
type failure interface {
	error
	RuntimeError()
}

func caught(q question, v any) (out any, fault api.Errno) {
	defer func() {
		if _, ok := recover().(failure); ok {
			fault = api.ErrAssert
		}
	}()
	return q.must(v), api.OK
}
