package lint

import (
	"conduit/api"
	"conduit/want"
)

// kinds is a set of kinds of values: the bit of each.
type kinds uint32

// The kinds in the order of their numbers, and behind the last one the set of all.
const (
	ofNil kinds = 1 << iota
	ofInt
	ofKey
	ofFloat
	ofText
	ofName
	ofBool
	ofBytes
	ofList
	ofPair
	ofErr
	ofPtr
	ofNoPtr
	ofUnit
	anyKind kinds = 1<<iota - 1

	noKind kinds = 0
)

func kindsOf(w api.Want) kinds { return kinds(want.Kinds(w)) }

// lets is the kinds that a route lets through; one without a pattern lets all.
func lets(r api.Route) kinds {
	if r.Want.Op == 0 && r.Want.Num == 0 && len(r.Want.List) == 0 {
		return anyKind
	}
	return kindsOf(r.Want)
}
