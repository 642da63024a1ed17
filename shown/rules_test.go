package shown

import (
	"reflect"
	"slices"
	"testing"

	"conduit/api"
)

// said is all that is answered about a chain.
type said struct {
	levels      []api.Caps
	shown, lost api.Caps
	who, reach  [13]int
	gives       []api.Caps
}

func all(ch api.Chain) said {
	s := said{levels: Levels(ch), shown: Shown(ch), lost: Lost(ch)}
	for i := range s.who {
		s.who[i], s.reach[i] = Who(ch, i-1), Reach(ch, i-1)
	}
	for _, w := range ch.Wraps {
		s.gives = append(s.gives, Gives(w))
	}
	return s
}

// copied is a chain of its own memory.
func copied(ch api.Chain) api.Chain {
	ch.Wraps = slices.Clone(ch.Wraps)
	for i := range ch.Wraps {
		ch.Wraps[i].Want.List = slices.Clone(ch.Wraps[i].Want.List)
	}
	return ch
}

// 0.3, 0.4: the same again, whatever was asked in between and done with what was answered; the chain stays as it was, spare room too.
func TestSameAgain(t *testing.T) {
	r := newRandom(6)
	for range 2000 {
		whole := copied(randomChain(t, r, 8))
		was := copied(whole)
		ch := inner(whole, r.IntN(len(whole.Wraps)+1))
		first := all(ch)
		l := Levels(ch)
		for i := range l[:cap(l)] {
			l[:cap(l)][i] = 1 << 20
		}
		all(randomChain(t, r, 8))
		if again := all(ch); !reflect.DeepEqual(first, again) {
			t.Fatalf("%+v: %+v, then %+v", ch, first, again)
		}
		if !reflect.DeepEqual(whole, was) {
			t.Fatalf("%+v, was %+v", whole, was)
		}
	}
}

// 0.4: what was answered does not hang on the chain any more.
func TestNotKept(t *testing.T) {
	r := newRandom(7)
	for range 500 {
		ch := copied(randomChain(t, r, 8))
		l := Levels(ch)
		was := slices.Clone(l)
		for i := range ch.Wraps {
			ch.Wraps[i] = wrap(api.WrHide, 0, true)
		}
		if !slices.Equal(l, was) {
			t.Fatalf("%s, was %s", texts(l), texts(was))
		}
	}
}

// 0.8: spare room plays no part, nor whether a list is nil or empty.
func TestSpareRoom(t *testing.T) {
	r := newRandom(8)
	for _, c := range properSets() {
		a, b := api.Chain{Core: store(c)}, api.Chain{Core: store(c), Wraps: []api.Wrap{}}
		if !reflect.DeepEqual(all(a), all(b)) {
			t.Fatalf("%s: %+v, %+v", text(c), all(a), all(b))
		}
	}
	for range 1000 {
		ch := randomChain(t, r, 8)
		for k := range len(ch.Wraps) + 1 {
			a := inner(ch, k)
			if b := copied(a); !reflect.DeepEqual(all(a), all(b)) {
				t.Fatalf("%+v: %+v, %+v", a, all(a), all(b))
			}
		}
	}
}

// What a wrapper's numbers and pattern are, and what the core does, plays no part.
func TestOthersPlayNoPart(t *testing.T) {
	r := newRandom(9)
	for range 2000 {
		ch := randomChain(t, r, 8)
		other := copied(ch)
		if ch.Core.Caps&set("save load") == 0 {
			other.Core = api.Core{Op: pick(r, api.CoCount, api.CoFail, api.CoPanic, api.CoLess, api.CoMute), Caps: ch.Core.Caps}
		}
		for i, w := range other.Wraps {
			if w.A > 0 {
				other.Wraps[i].A = pick[int64](r, 1, 8)
			}
			if w.B > 0 {
				other.Wraps[i].B = 1 + r.Int64N(1000)
			}
			if w.Op == api.WrFilter {
				other.Wraps[i].Want = api.Want{Op: api.WAny}
			}
		}
		fit(t, other)
		if a, b := all(ch), all(other); !reflect.DeepEqual(a, b) {
			t.Fatalf("%+v: %+v\n%+v: %+v", ch, a, other, b)
		}
	}
}

// chainOf makes a fit chain of any bytes.
func chainOf(b []byte) api.Chain {
	at := func(i int) int {
		if i < len(b) {
			return int(b[i])
		}
		return 0
	}
	sets := properSets()
	ch := api.Chain{Core: store(sets[(at(0)<<8|at(1))%len(sets)])}
	for i := 2; i < len(b) && len(ch.Wraps) < 8; i += 3 {
		c := 1 + api.Caps(at(i+1)<<8|at(i+2))%1023
		ch.Wraps = append(ch.Wraps, wrap(1+at(i)%12, c, at(i) >= 128))
	}
	return ch
}

// FuzzChains looks for chains of which something else is said than the chapter says.
func FuzzChains(f *testing.F) {
	f.Add([]byte{})
	f.Add([]byte{1, 67})
	f.Add([]byte{0, 200, 1, 0, 7, 131, 3, 255, 136, 0, 0})
	f.Fuzz(func(t *testing.T, b []byte) {
		ch := chainOf(b)
		fit(t, ch)
		asSaid(t, ch)
		exactly(t, ch)
	})
}
