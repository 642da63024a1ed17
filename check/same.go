package check

import (
	"slices"

	"conduit/api"
)

func sameHandler(a, b api.Named) bool {
	return a.Name == b.Name && sameChain(a.Chain, b.Chain) && a.Inbox == b.Inbox && a.Drop == b.Drop && slices.Equal(a.After, b.After)
}

func sameChain(a, b api.Chain) bool {
	return a.Core == b.Core && slices.EqualFunc(a.Wraps, b.Wraps, sameWrap)
}

func sameWrap(a, b api.Wrap) bool {
	return a.Op == b.Op && a.A == b.A && a.B == b.B && a.Caps == b.Caps && sameWant(a.Want, b.Want) && a.Open == b.Open
}

func sameRoute(a, b api.Route) bool {
	return a.Filter == b.Filter && sameWant(a.Want, b.Want) && a.Handler == b.Handler && a.Else == b.Else
}

func sameWant(a, b api.Want) bool {
	return a.Op == b.Op && a.Num == b.Num && slices.EqualFunc(a.List, b.List, sameWant)
}
