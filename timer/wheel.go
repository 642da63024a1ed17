package timer

import (
	"math/bits"

	"conduit/api"
)

const (
	// A level has as many slots as a word has bits, so that one word tells which of them have timers.
	turnBits = 6
	turn     = 1 << turnBits
	// So many levels have room for every tick up to MaxTick, which has 41 bits.
	levels = 7
)

// place is that of a slot in a level.
type place struct{ level, slot int }

// placeOf is where a timer for a tick lies at this time: at the level of the highest bit in which the tick is another than now. So all of one tick lie in one slot, and what lies at a level fires ahead of all above it.
func (w *Wheel) placeOf(at int64) place {
	level := (bits.Len64(uint64(at^w.now)|1) - 1) / turnBits
	return place{level, int(at >> (level * turnBits) % turn)}
}

// begin is the first tick of a slot.
func (w *Wheel) begin(p place) int64 {
	width := p.level * turnBits
	whole := width + turnBits
	return w.now>>whole<<whole | int64(p.slot)<<width
}

func (w *Wheel) slotAt(p place) *slot { return &w.slots[p.level][p.slot] }

func (w *Wheel) put(t *timer) {
	p := w.placeOf(t.at)
	w.slotAt(p).put(t)
	w.used[p.level] |= 1 << p.slot
}

func (w *Wheel) leave(t *timer) {
	p := w.placeOf(t.at)
	s := w.slotAt(p)
	s.leave(t)
	if s.empty() {
		w.used[p.level] &^= 1 << p.slot
	}
}

// firstOf is the first slot of a level that has timers; false: none has.
func (w *Wheel) firstOf(level int) (place, bool) {
	used := w.used[level]
	if used == 0 {
		return place{}, false
	}
	return place{level, bits.TrailingZeros64(used)}, true
}

// turnTo comes from slot to slot up to a tick, and tells what fires on the way.
func (w *Wheel) turnTo(now int64) []api.Fired {
	var fired []api.Fired
down:
	for {
		for level := range levels {
			p, ok := w.firstOf(level)
			if !ok {
				continue
			}
			if w.begin(p) > now {
				break down
			}
			fired = w.comeDown(p, fired)
			// What came down lies at a lower level now, and is to be come to first.
			continue down
		}
		break
	}
	w.now = now
	return fired
}

// comeDown comes to the first tick of a slot: what waits for it fires, all else goes to slots of lower levels, in the same order.
func (w *Wheel) comeDown(p place, fired []api.Fired) []api.Fired {
	w.now = w.begin(p)
	w.used[p.level] &^= 1 << p.slot
	for s := w.slotAt(p); !s.empty(); {
		t := s.behind
		s.leave(t)
		if t.at > w.now {
			w.put(t)
			continue
		}
		delete(w.waiting, t.id)
		fired = append(fired, api.Fired{At: t.at, Id: t.id})
	}
	return fired
}
