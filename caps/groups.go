package caps

import "conduit/api"

// The groups embed one another as the interfaces do for which they stand, so that whole has the sets of all of them.

type drain struct{}

func (drain) drains() api.Caps { return canFlush | canClose }

type keep struct{}

func (keep) keeps() api.Caps { return canSave | canLoad }

type steady struct{}

func (steady) steadies() api.Caps { return canPing | canReset }

type lasting struct {
	keep
	steady
}

func (g lasting) lasts() api.Caps { return g.keeps() | g.steadies() }

type whole struct {
	drain
	lasting
}

func (g whole) does() api.Caps { return g.drains() | g.lasts() }

// Parts is the capabilities of a group; none of what is none.
func Parts(group int) api.Caps {
	var g whole
	switch group {
	case api.GDrain:
		return g.drains()
	case api.GKeep:
		return g.keeps()
	case api.GSteady:
		return g.steadies()
	case api.GLasting:
		return g.lasts()
	case api.GWhole:
		return g.does()
	}
	return 0
}

// Groups is the groups that a set has, rising.
func Groups(c api.Caps) []int {
	var l []int
	for group := range api.NumGroups {
		if has(c, Parts(group)) {
			l = append(l, group)
		}
	}
	return l
}
