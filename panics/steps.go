package panics

import (
	"conduit/api"
	"conduit/datum"
	"conduit/want"
)

// Must is d, asserted to a kind.
func Must(d api.Datum, kind int) api.Datum {
	is, miss, fault := want.Must(d, kind)
	if fault != api.OK {
		panic(Assertion(miss.Have))
	}
	return is
}

// Open is what d, asserted to what can be opened, opens to.
func Open(d api.Datum) api.Datum {
	if miss, fault := want.MustFace(d, api.FOpening); fault != api.OK {
		panic(Assertion(miss.Method))
	}
	inside, fault := datum.Open(d)
	if fault != api.OK {
		panic(NilPointer{})
	}
	return inside
}

// Place is a place of d, asserted to a list.
func Place(d api.Datum, at int64) api.Datum {
	l := Must(d, api.KList).List
	if at < 0 || at >= int64(len(l)) {
		panic(Index(at))
	}
	return l[at]
}
