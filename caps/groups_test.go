package caps

import (
	"slices"
	"testing"

	"conduit/api"
)

// P5.4: the capabilities of each group; none of what is none.
func TestParts(t *testing.T) {
	want := [api.NumGroups]api.Caps{
		api.GDrain:   set(api.CapFlush, api.CapClose),
		api.GKeep:    set(api.CapSave, api.CapLoad),
		api.GSteady:  set(api.CapPing, api.CapReset),
		api.GLasting: set(api.CapSave, api.CapLoad, api.CapPing, api.CapReset),
		api.GWhole:   set(api.CapFlush, api.CapClose, api.CapSave, api.CapLoad, api.CapPing, api.CapReset),
	}
	for group, parts := range want {
		if got := Parts(group); got != parts {
			t.Errorf("%d: %q", group, Text(got))
		}
	}
	for _, group := range append(noNumbers(), 5, 6, 10) {
		if got := Parts(group); got != 0 {
			t.Errorf("%d: %q", group, Text(got))
		}
	}
}

// hasGroup is P5.7's form: a group that embeds others is had with these, one that embeds none with its two capabilities.
func hasGroup(c api.Caps, group int) bool {
	switch group {
	case api.GDrain:
		return within(set(api.CapFlush, api.CapClose), c)
	case api.GKeep:
		return within(set(api.CapSave, api.CapLoad), c)
	case api.GSteady:
		return within(set(api.CapPing, api.CapReset), c)
	case api.GLasting:
		return hasGroup(c, api.GKeep) && hasGroup(c, api.GSteady)
	}
	return hasGroup(c, api.GDrain) && hasGroup(c, api.GLasting)
}

// P5.4, P5.7, of every set: the groups, rising, each just if it has all that the group embeds.
func TestGroups(t *testing.T) {
	for _, c := range allSets() {
		var want []int
		for group := range api.NumGroups {
			if hasGroup(c, group) {
				want = append(want, group)
			}
		}
		if got := Groups(c); !slices.Equal(got, want) {
			t.Errorf("%q: %v, not %v", Text(c), got, want)
		}
		for _, more := range beyond() {
			if got := Groups(c | more); !slices.Equal(got, want) {
				t.Errorf("%b: %v, not %v", c|more, got, want)
			}
		}
	}
}

// P5.4: a set without one of a group's two has it not, whatever else it has.
func TestGroupsEdges(t *testing.T) {
	for _, x := range []struct {
		c    api.Caps
		want []int
	}{
		{0, nil},
		{1 << 11, nil},
		{set(api.CapFlush), nil},
		{2047 &^ set(api.CapFlush), []int{api.GKeep, api.GSteady, api.GLasting}},
		{2047 &^ set(api.CapClose), []int{api.GKeep, api.GSteady, api.GLasting}},
		{2047 &^ set(api.CapSave), []int{api.GDrain, api.GSteady}},
		{2047 &^ set(api.CapReset), []int{api.GDrain, api.GKeep}},
		{2047 &^ set(api.CapClose, api.CapLoad, api.CapPing), nil},
		{2047, []int{api.GDrain, api.GKeep, api.GSteady, api.GLasting, api.GWhole}},
		{Parts(api.GWhole), []int{api.GDrain, api.GKeep, api.GSteady, api.GLasting, api.GWhole}},
	} {
		if got := Groups(x.c); !slices.Equal(got, x.want) {
			t.Errorf("%q: %v", Text(x.c), got)
		}
	}
}

// P5.7: more capabilities, more groups.
func TestMoreGroups(t *testing.T) {
	for _, c := range allSets() {
		before := Groups(c)
		for which := range api.NumCaps {
			after := Groups(c | set(which))
			for _, group := range before {
				if !slices.Contains(after, group) {
					t.Errorf("%q and %s: %v, then %v", Text(c), Word(which), before, after)
				}
			}
		}
	}
}
