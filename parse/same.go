package parse

import (
	"slices"

	"conduit/api"
)

func sameUse(a, b api.Use) bool { return a.Name == b.Name }

func sameUses(a, b []api.Use) bool { return slices.EqualFunc(a, b, sameUse) }

func sameHandler(a, b api.HandlerDecl) bool {
	return a.Name == b.Name && sameUse(a.Of, b.Of) && sameCore(a.Core, b.Core) &&
		slices.EqualFunc(a.Wraps, b.Wraps, sameWrap) &&
		a.Room == b.Room && a.Inbox == b.Inbox && sameUse(a.Drop, b.Drop) && sameUses(a.After, b.After)
}

func sameCore(a, b api.CoreDecl) bool {
	return a.Word == b.Word && a.Has == b.Has && a.Minus == b.Minus && a.Num == b.Num && sameUses(a.Caps, b.Caps)
}

func sameWrap(a, b api.WrapDecl) bool {
	return a.Open == b.Open && a.Word == b.Word && a.Sub == b.Sub && slices.Equal(a.Nums, b.Nums) &&
		sameUses(a.Caps, b.Caps) && a.When == b.When && sameWant(a.Want, b.Want)
}

func sameRoute(a, b api.RouteDecl) bool {
	return sameUse(a.Filter, b.Filter) && a.When == b.When && sameWant(a.Want, b.Want) && a.Else == b.Else && sameUse(a.To, b.To)
}

func sameWant(a, b api.Want) bool {
	return a.Op == b.Op && a.Num == b.Num && slices.EqualFunc(a.List, b.List, sameWant)
}
