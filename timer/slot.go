package timer

import (
	"cmp"
	"slices"
)

// links are the two beside a timer in its slot. A slot has them, too, as nil stands for the slot itself: ahead of it is its last timer, behind it its first one.
type links struct{ ahead, behind *timer }

// timer waits for a tick.
type timer struct {
	links
	at, id int64
}

// slot is a list of timers; those of one tick stand in the order in which they were added.
type slot struct {
	links
	// mixed: some wait for a tick below that of one ahead of them.
	mixed bool
	// least is, of a mixed slot, the least tick for which one waits, or 0 once a timer for it has left: Next is not to go through all timers of a far slot each time.
	least int64
}

func (s *slot) empty() bool { return s.behind == nil }

func (s *slot) linksOf(t *timer) *links {
	if t == nil {
		return &s.links
	}
	return &t.links
}

func (s *slot) put(t *timer) {
	switch {
	case s.empty():
		s.mixed = false
	case s.mixed:
		s.least = min(s.least, t.at)
	case t.at < s.ahead.at:
		s.mixed, s.least = true, min(s.behind.at, t.at)
	}
	t.links = links{ahead: s.ahead}
	s.linksOf(t.ahead).behind = t
	s.ahead = t
}

func (s *slot) leave(t *timer) {
	if t.at == s.least {
		s.least = 0
	}
	s.linksOf(t.ahead).behind = t.behind
	s.linksOf(t.behind).ahead = t.ahead
}

// soonest is the least tick for which one waits, of a slot that is not empty.
func (s *slot) soonest() int64 {
	if s.mixed && s.least != 0 {
		return s.least
	}
	if s.mixed {
		// Once in order, it tells the least one at once, whichever leave.
		s.sort()
	}
	return s.behind.at
}

func (s *slot) sort() {
	var l []*timer
	for t := s.behind; t != nil; t = t.behind {
		l = append(l, t)
	}
	slices.SortStableFunc(l, func(a, b *timer) int { return cmp.Compare(a.at, b.at) })
	*s = slot{}
	for _, t := range l {
		s.put(t)
	}
}
