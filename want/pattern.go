package want

import (
	"slices"

	"conduit/api"
)

const bothPointers = 1<<api.KPtr | 1<<api.KNoPtr

// validWithin counts down, so that a pattern that stands in itself, or in very many places, is left as soon as it is too much.
func validWithin(w api.Want, deep int, left *int) bool {
	if deep == 0 || *left == 0 || !wellFormed(w) {
		return false
	}
	*left--
	for _, p := range w.List {
		if !validWithin(p, deep-1, left) {
			return false
		}
	}
	return true
}

func wellFormed(w api.Want) bool {
	switch parts := len(w.List); w.Op {
	case api.WAny:
		return w.Num == 0 && parts == 0
	case api.WKind:
		return isKind(w.Num) && parts == 0
	case api.WFace:
		return w.Num >= 0 && w.Num < api.NumFaces && parts == 0
	case api.WOr, api.WAnd:
		return w.Num == 0 && parts >= 2
	case api.WNot:
		return w.Num == 0 && parts == 1
	}
	return false
}

func isKind(n int) bool { return n >= 0 && n < api.NumKinds }

func holds(w api.Want, v any) bool {
	switch w.Op {
	case api.WAny:
		return v != nil
	case api.WKind:
		return w.Num == api.KNil && v == nil || typeOf(w.Num).holds(v)
	case api.WFace:
		return interfaceOf(w.Num).holds(v)
	case api.WOr:
		return slices.ContainsFunc(w.List, func(p api.Want) bool { return holds(p, v) })
	case api.WAnd:
		return !slices.ContainsFunc(w.List, func(p api.Want) bool { return !holds(p, v) })
	case api.WNot:
		return !slices.ContainsFunc(w.List, func(p api.Want) bool { return holds(p, v) })
	}
	return false
}

func plain(kinds uint32) api.Want {
	if kinds == 0 {
		return and(api.Want{Op: api.WAny}, not(api.Want{Op: api.WAny}))
	}
	if kinds&bothPointers == 1<<api.KPtr {
		return and(either(kinds), not(ofKind(api.KNoPtr)))
	}
	return either(kinds)
}

// either has no pattern of its own for KNoPtr beside KPtr, which holds of both.
func either(kinds uint32) api.Want {
	if kinds>>api.KPtr&1 == 1 {
		kinds &^= 1 << api.KNoPtr
	}
	var l []api.Want
	for k := range api.NumKinds {
		if kinds>>k&1 == 1 {
			l = append(l, ofKind(k))
		}
	}
	if len(l) == 1 {
		return l[0]
	}
	return api.Want{Op: api.WOr, List: l}
}

func ofKind(kind int) api.Want { return api.Want{Op: api.WKind, Num: kind} }

func and(a, b api.Want) api.Want { return api.Want{Op: api.WAnd, List: []api.Want{a, b}} }

func not(w api.Want) api.Want { return api.Want{Op: api.WNot, List: []api.Want{w}} }
