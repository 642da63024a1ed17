package panics

import (
	"conduit/api"
	"conduit/value"
	"conduit/want"
)

// Must is d, asserted to a kind.
func Must(d api.Datum, kind int) api.Datum {
	is, miss, fault := want.Must(d, kind)
	if fault != api.OK {
		panic(Assertion(miss.Have))
	}
	return is
}

// Face asserts d to an interface.
func Face(d api.Datum, face int) {
	if miss, fault := want.MustFace(d, face); fault != api.OK {
		panic(Assertion(miss.Method))
	}
}

// Open is what d, asserted to what can be opened, opens to.
func Open(d api.Datum) api.Datum {
	Face(d, api.FOpening)
	// The call goes through an interface that may hold a nil pointer.
	box := value.Of(d).(value.Opening)
	return value.Plain(As(NilPointer{}, func() any { return box.Open() }))
}

// Place is a place of d, asserted to a list.
func Place(d api.Datum, at int64) api.Datum {
	l := Must(d, api.KList).List
	return As(Index(at), func() api.Datum { return l[at] })
}
