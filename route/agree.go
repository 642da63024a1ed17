package route

import (
	"iter"

	"conduit/api"
	"conduit/topic"
	"conduit/value"
	"conduit/want"
)

// found is what came of holding a route against a message.
type found int

const (
	otherTopic found = iota
	otherType
	agrees
)

// inOrder goes through the routes, each by its place and with what is found of it.
func inOrder(l []api.Route, m api.Msg) iter.Seq2[int, found] {
	// A pattern looks at the type alone, so that what lies in the body need not be made.
	body := value.OfKind(m.Body.Kind)
	return func(yield func(int, found) bool) {
		for at, r := range l {
			if !yield(at, foundOf(r, m, body)) {
				return
			}
		}
	}
}

func foundOf(r api.Route, m api.Msg, body any) found {
	switch {
	case !topic.Match(r.Filter, m.Topic):
		return otherTopic
	case !matches(r.Want, m.Body, body):
		return otherType
	}
	return agrees
}

// matches asks the value itself where a pattern is one type, as most are; all others chapter 2 takes apart.
func matches(w api.Want, d api.Datum, body any) bool {
	switch {
	case isNone(w):
		return true
	case w.Op == api.WKind:
		return isOf(body, w.Num)
	}
	return want.Holds(w, d)
}

// isNone tells whether a route was given no pattern: unlike WAny, that agrees with what bears no value, too.
func isNone(w api.Want) bool { return w.Op == 0 && w.Num == 0 && len(w.List) == 0 }

// isOf tells whether a value is of a kind; both kinds of pointers have one type.
func isOf(v any, kind int) bool {
	switch v := v.(type) {
	case nil:
		return kind == api.KNil
	case value.Whole:
		return kind == api.KInt
	case value.Key:
		return kind == api.KKey
	case value.Float:
		return kind == api.KFloat
	case value.Text:
		return kind == api.KText
	case value.Name:
		return kind == api.KName
	case value.Truth:
		return kind == api.KBool
	case value.Octets:
		return kind == api.KBytes
	case value.Row:
		return kind == api.KList
	case value.Pair:
		return kind == api.KPair
	case value.Failure:
		return kind == api.KErr
	case *value.Box:
		return kind == api.KPtr || kind == api.KNoPtr && v == nil
	case value.Unit:
		return kind == api.KUnit
	}
	return false
}
