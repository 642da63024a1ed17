package shown

import (
	"slices"
	"testing"

	"conduit/api"
)

// exactly holds a chain against P9.6 and P9.7.
func exactly(t testing.TB, ch api.Chain) {
	t.Helper()
	l := Levels(ch)
	for which := range api.NumCaps {
		is := api.Caps(1) << which
		who := Who(ch, which)
		if (who >= 0) != (Shown(ch)&is != 0) || who < -1 || who >= len(l) {
			t.Fatalf("%+v: %d: who %d", ch, which, who)
		}
		if who < 0 {
			continue
		}
		if Reach(ch, which) != who {
			t.Fatalf("%+v: %d: who %d, but reached %d", ch, which, who, Reach(ch, which))
		}
		if who > 0 && Gives(ch.Wraps[who-1])&is == 0 || who == 0 && ch.Core.Caps&is == 0 {
			t.Fatalf("%+v: %d: %d has it not", ch, which, who)
		}
		for _, c := range l[who:] {
			if c&is == 0 {
				t.Fatalf("%+v: %d: who %d, levels %s", ch, which, who, texts(l))
			}
		}
	}
}

// P9.6, P9.7.
func TestShownExactly(t *testing.T) {
	r := newRandom(3)
	for range 10000 {
		exactly(t, randomChain(t, r, 8))
	}
}

// P9.8: with more of the core's, no level shows fewer.
func TestMonotone(t *testing.T) {
	r := newRandom(4)
	for range 10000 {
		a := randomChain(t, r, 8)
		a.Core = store(a.Core.Caps)
		b := a
		b.Core.Caps = pick(r, properSets()...) | a.Core.Caps
		fit(t, a)
		fit(t, b)
		few, more := Levels(a), Levels(b)
		for k := range few {
			if few[k]&^more[k] != 0 {
				t.Fatalf("%+v: %s, with %s: %s", a, texts(few), text(b.Core.Caps), texts(more))
			}
		}
	}
}

// moved is a level's number, once another level is put right around level k.
func moved(level, k int) int {
	if level > k {
		return level + 1
	}
	return level
}

// P9.9: a WrThrough right around any level.
func TestThrough(t *testing.T) {
	r := newRandom(5)
	for range 3000 {
		ch := randomChain(t, r, 7)
		for k := range len(ch.Wraps) + 1 {
			open := k > 0 && ch.Wraps[k-1].Open
			more := api.Chain{Core: ch.Core, Wraps: slices.Insert(slices.Clone(ch.Wraps), k, wrap(api.WrThrough, 0, open))}
			fit(t, more)
			l := Levels(ch)
			if got := Levels(more); !slices.Equal(got, slices.Insert(slices.Clone(l), k, l[k])) {
				t.Fatalf("%+v: %s, not %s with %d twice", more, texts(got), texts(l), k)
			}
			if Shown(more) != Shown(ch) {
				t.Fatalf("%+v: %s", more, text(Shown(more)))
			}
			sameThrough(t, ch, more, k, open)
		}
	}
}

// sameThrough holds who answers, what is reached and what is lost of a chain against one that has a WrThrough right around level k. Being open itself is given by each level that is: asked at the level k, it is the WrThrough that answers.
func sameThrough(t *testing.T, ch, more api.Chain, k int, open bool) {
	t.Helper()
	for which := range api.NumCaps {
		who, reach := moved(Who(ch, which), k), moved(Reach(ch, which), k)
		if which == api.CapOpen && open && k == len(ch.Wraps) {
			who, reach = k+1, k+1
		}
		if got := Who(more, which); got != who {
			t.Fatalf("%+v: Who(%d) %d, not %d", more, which, got, who)
		}
		if got := Reach(more, which); got != reach {
			t.Fatalf("%+v: Reach(%d) %d, not %d", more, which, got, reach)
		}
	}
	if Lost(more) != Lost(ch) {
		t.Fatalf("%+v: lost %s, not %s", more, text(Lost(more)), text(Lost(ch)))
	}
}
