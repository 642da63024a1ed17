package parse

import (
	"conduit/api"
	"conduit/scan"
)

// all tells whether each of a list is so.
func all[T any](l []T, is func(T) bool) bool {
	for _, x := range l {
		if !is(x) {
			return false
		}
	}
	return true
}

// isName tells whether a text is one name, with nothing around it.
func isName(s string) bool {
	tokens, _ := scan.Scan([]byte(s))
	return len(tokens) == 1 && tokens[0] == api.Token{Kind: api.TokName, End: len(s)}
}

func isNameOrNone(s string) bool { return s == "" || isName(s) }

func fitUse(u api.Use) bool { return isName(u.Name) }

func fitHandler(h api.HandlerDecl) bool {
	return isName(h.Name) && fitInner(h.Of, h.Core) && all(h.Wraps, fitWrap) &&
		fitRoom(h.Room, h.Inbox, h.Drop) && all(h.After, fitUse)
}

// fitInner is of what lies innermost: another handler or a core.
func fitInner(of api.Use, c api.CoreDecl) bool {
	if of.Name == "" {
		return isName(c.Word) && fitNumber(c) && all(c.Caps, fitUse)
	}
	return isName(of.Name) && c.Word == "" && !c.Has && fitNumber(c) && len(c.Caps) == 0
}

func fitNumber(c api.CoreDecl) bool {
	return c.Has || !c.Minus && c.Num == 0
}

func fitRoom(room bool, inbox uint64, drop api.Use) bool {
	if !room {
		return inbox == 0 && drop.Name == ""
	}
	return isNameOrNone(drop.Name)
}

func fitWrap(w api.WrapDecl) bool {
	return isName(w.Word) && isNameOrNone(w.Sub) && len(w.Nums) <= maxNums && all(w.Caps, fitUse) && fitWhen(w.When, w.Want)
}

func fitRoute(r api.RouteDecl) bool {
	return len(r.Filter.Name) <= api.MaxBytes && fitWhen(r.When, r.Want) && !(r.When && r.Else) && fitUse(r.To)
}

func fitWhen(when bool, w api.Want) bool {
	if !when {
		return w.Op == 0 && w.Num == 0 && len(w.List) == 0
	}
	return fitWant(w)
}

func fitWant(w api.Want) bool {
	left := api.MaxTokens
	return fitWithin(w, 0, api.MaxNest, &left)
}

// fitWithin counts down how many parts are left, and how many "(" and "!" may still be open, so that a pattern that stands in itself is left as soon as it is too much.
func fitWithin(w api.Want, around, nest int, left *int) bool {
	if *left == 0 || !wellMade(w) {
		return false
	}
	*left--
	if w.Op == api.WNot || enclosed(w.Op, around) {
		nest--
	}
	if nest < 0 {
		return false
	}
	return all(w.List, func(p api.Want) bool { return fitWithin(p, w.Op, nest, left) })
}

func wellMade(w api.Want) bool {
	switch w.Op {
	case api.WOr, api.WAnd:
		return w.Num == 0 && len(w.List) >= 2
	case api.WNot:
		return w.Num == 0 && len(w.List) == 1
	}
	return wordOf(w) != "" && len(w.List) == 0
}
