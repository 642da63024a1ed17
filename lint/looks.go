package lint

import (
	"iter"
	"slices"

	"conduit/api"
	"conduit/shown"
	"conduit/shut"
)

// findings is what one look finds, in its order; what they all are, the look itself says.
type findings iter.Seq[api.Finding]

type look struct {
	what  int
	finds func(*sight) findings
}

func looks() []look {
	return []look{
		{api.FindDead, dead},
		{api.FindIdle, idle},
		{api.FindNoCap, noCap},
		{api.FindLost, lost},
		{api.FindLoop, loop},
		{api.FindRefuse, refuse},
	}
}

func dead(s *sight) findings {
	return func(yield func(api.Finding) bool) {
		for i, is := range s.dead {
			if is && !yield(api.Finding{At: i}) {
				return
			}
		}
	}
}

func idle(s *sight) findings {
	return func(yield func(api.Finding) bool) {
		for i, gets := range s.gets {
			if gets == noKind && !yield(api.Finding{At: i}) {
				return
			}
		}
	}
}

func noCap(s *sight) findings {
	return func(yield func(api.Finding) bool) {
		for i, h := range s.plan.Handlers {
			for _, other := range slices.Compact(slices.Sorted(slices.Values(h.After))) {
				closes := !s.has(other) || has(s.shows[other], api.CapClose)
				if !closes && !yield(api.Finding{At: i, Other: other, Cap: api.CapClose}) {
					return
				}
			}
		}
	}
}

func lost(s *sight) findings {
	return func(yield func(api.Finding) bool) {
		for i, h := range s.plan.Handlers {
			gone := shown.Lost(h.Chain)
			for which := range api.NumCaps {
				if has(gone, which) && !yield(api.Finding{At: i, Cap: which}) {
					return
				}
			}
		}
	}
}

func has(c api.Caps, which int) bool { return c>>which&1 == 1 }

func loop(s *sight) findings {
	return func(yield func(api.Finding) bool) {
		var after [][]int
		for _, h := range s.plan.Handlers {
			after = append(after, h.After)
		}
		for _, i := range shut.Order(after).Cycle {
			if !yield(api.Finding{At: i}) {
				return
			}
		}
	}
}

func refuse(s *sight) findings {
	return func(yield func(api.Finding) bool) {
		for i, h := range s.plan.Handlers {
			// Of one that is not led to, each filter would be told.
			if s.gets[i] == noKind {
				continue
			}
			for level, w := range filters(h.Chain) {
				if w&s.gets[i] == noKind && !yield(api.Finding{At: i, Other: level}) {
					return
				}
			}
		}
	}
}

// filters is the filters of a chain to which bodies come as they were sent, from the outermost one inwards: the level of each and the kinds that it lets through.
func filters(ch api.Chain) iter.Seq2[int, kinds] {
	return func(yield func(int, kinds) bool) {
		for i, w := range slices.Backward(ch.Wraps) {
			switch w.Op {
			case api.WrMap, api.WrBuffer:
				return
			case api.WrFilter:
				if !yield(i+1, kindsOf(w.Want)) {
					return
				}
			}
		}
	}
}
