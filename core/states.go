package core

import (
	"conduit/api"
	"conduit/copies"
	"conduit/datum"
	"conduit/value"
)

// most is where counts stay.
const most = 1 << 62

func isCount(n int64) bool { return 0 <= n && n <= most }

func oneMore(n int64) int64 { return min(n+1, most) }

// areKeys tells whether values may all be keys, each of them another one.
func areKeys(l []api.Datum) bool {
	for _, d := range l {
		if !datum.Valid(d) {
			return false
		}
	}
	firsts, fault := datum.Group(l)
	for i, first := range firsts {
		if first != i {
			return false
		}
	}
	return fault == api.OK
}

func whole(n int64) api.Datum { return value.Plain(value.Whole(n)) }

func truth(is bool) api.Datum { return value.Plain(value.Truth(is)) }

func list(l ...api.Datum) api.Datum { return api.Datum{Kind: api.KList, List: l} }

func pair(a, b api.Datum) api.Datum { return api.Datum{Kind: api.KPair, List: []api.Datum{a, b}} }

func saved(st api.CoreState) api.Datum {
	st = copies.Core(st)
	return pair(
		list(whole(st.Count), whole(st.Acked), whole(st.Until), truth(st.Closed)),
		pair(st.Last, list(st.List...)),
	)
}

// isSaved tells whether a valid value has the form of one that was saved.
func isSaved(d api.Datum) bool {
	return d.Kind == api.KPair && areOf(d.List, api.KList, api.KPair) &&
		areOf(d.List[0].List, api.KInt, api.KInt, api.KInt, api.KBool) &&
		d.List[1].List[1].Kind == api.KList
}

func areOf(l []api.Datum, kinds ...int) bool {
	if len(l) != len(kinds) {
		return false
	}
	for i, d := range l {
		if d.Kind != kinds[i] {
			return false
		}
	}
	return true
}

// loaded is the state of a value of that form, fit or not.
func loaded(d api.Datum) api.CoreState {
	numbers, values := d.List[0].List, d.List[1].List
	return copies.Core(api.CoreState{
		Count:  numbers[0].Int,
		Acked:  numbers[1].Int,
		Until:  numbers[2].Int,
		Closed: numbers[3].Int == 1,
		Last:   values[0],
		List:   values[1].List,
	})
}
