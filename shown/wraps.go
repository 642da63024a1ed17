package shown

import "conduit/api"

// The capabilities that the table of wrappers speaks of, each as the set that has it alone.
const (
	canFlush api.Caps = 1 << api.CapFlush
	canBatch api.Caps = 1 << api.CapBatch
	canPing  api.Caps = 1 << api.CapPing
	canReset api.Caps = 1 << api.CapReset
	canUntil api.Caps = 1 << api.CapUntil
	canOpen  api.Caps = 1 << api.CapOpen
)

// core is level 0: it answers for all that it has.
type core struct{ has api.Caps }

func (core) number() int { return 0 }

func (c core) shows() api.Caps { return c.has }

func (core) answers(int) int { return 0 }

// through keeps all of the level below, but its being open. Who answers is promoted: for what is kept, it is who answers below.
type through struct{ level }

func (w through) number() int { return w.level.number() + 1 }

func (w through) shows() api.Caps { return w.level.shows() &^ canOpen }

// single takes messages one by one, so that batches can't go on to what lies within.
type single struct{ through }

func (w single) shows() api.Caps { return w.through.shows() &^ canBatch }

type mask struct {
	through
	only api.Caps
}

func (w mask) shows() api.Caps { return w.through.shows() & w.only }

type hide struct{ through }

func (hide) shows() api.Caps { return 0 }

// giving is a wrapper that answers for some by itself. It embeds what the wrapper is without them, at the same level.
type giving struct {
	level
	own api.Caps
}

func (w giving) gives() api.Caps { return w.own }

func (w giving) shows() api.Caps { return w.level.shows() | w.own }

func (w giving) answers(which int) int {
	if has(w.own, which) {
		return w.number()
	}
	return w.level.answers(which)
}

// opened is a wrapper that is Open: one that gives this, too, and hands out the level below.
type opened struct {
	giving
	below level
}

func (w opened) opens() level { return w.below }

// around is a level with a wrapper around it.
func around(l level, w api.Wrap) level {
	c := closed(l, w)
	if w.Open {
		return opened{giving{c, gives(c) | canOpen}, l}
	}
	return c
}

// closed is a level with a wrapper around it, as if that were not Open.
func closed(l level, w api.Wrap) level {
	t := through{l}
	switch w.Op {
	case api.WrFilter, api.WrLimit, api.WrRetry, api.WrMap:
		return single{t}
	case api.WrMask:
		return mask{t, w.Caps}
	case api.WrHide:
		return hide{t}
	case api.WrGive:
		return giving{t, w.Caps}
	case api.WrBreaker:
		return giving{single{t}, canPing}
	case api.WrDedup:
		return giving{single{t}, canReset}
	case api.WrBuffer:
		return giving{t, canFlush | canBatch}
	case api.WrUntil:
		return giving{t, canUntil}
	}
	return t
}
