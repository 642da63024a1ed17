package shown

import (
	"conduit/api"
	"conduit/caps"
)

// level is a level of a chain, with a method for each question that any level answers. What only some can do, giving and being opened, is no method of it: a wrapper embeds the level below as a level, so that neither is promoted, and both are found by asking.
type level interface {
	number() int
	shows() api.Caps
	answers(which int) int // who it is, for a capability that the level shows
}

type giver interface{ gives() api.Caps }

type opener interface{ opens() level }

// has tells whether a set has a capability; it has none that is none.
func has(c api.Caps, which int) bool { return caps.Word(which) != "" && c>>which&1 == 1 }

// gives is what a level answers for by itself.
func gives(l level) api.Caps {
	if g, ok := l.(giver); ok {
		return g.gives()
	}
	return 0
}

// who is the level that answers for a capability asked of one; -1: it is not shown there.
func who(l level, which int) int {
	if has(l.shows(), which) {
		return l.answers(which)
	}
	return -1
}

// reach is the level that answers for it there, or where opening leads to.
func reach(l level, which int) int {
	if at := who(l, which); at >= 0 {
		return at
	}
	if o, ok := l.(opener); ok {
		return reach(o.opens(), which)
	}
	return -1
}

// levels is a chain's levels, from the core on.
func levels(ch api.Chain) []level {
	l := []level{core{ch.Core.Caps}}
	for i, w := range ch.Wraps {
		l = append(l, around(l[i], w))
	}
	return l
}

func outermost(ch api.Chain) level {
	l := levels(ch)
	return l[len(ch.Wraps)]
}
