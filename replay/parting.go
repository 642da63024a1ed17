package replay

import (
	"bytes"

	"conduit/api"
)

// parting is where two runs of the same steps first go different ways.
func parting(a, b [][]api.Event) api.Diff {
	for i := range a {
		if at := partingIn(a[i], b[i]); at >= 0 {
			return api.Diff{Is: true, Step: i, Event: at}
		}
	}
	return api.Diff{}
}

// partingIn is the place of the first event of a step that is another one, or stands on one side alone; -1: there is none.
func partingIn(a, b []api.Event) int {
	for i := range max(len(a), len(b)) {
		if i >= len(a) || i >= len(b) || !same(a[i], b[i]) {
			return i
		}
	}
	return -1
}

// same tells whether two events are: each has one record, and no other one has that.
func same(a, b api.Event) bool { return bytes.Equal(Event(a), Event(b)) }
