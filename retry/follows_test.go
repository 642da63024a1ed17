package retry

import (
	"testing"

	"conduit/api"
)

// P12.4: the result is that of the last try made; all ahead of it are worth another one.
func TestLastOfTries(t *testing.T) {
	r := newRandom(3)
	for range 50000 {
		tries, l := randomTries(r), randomRow(r)
		got, made := Run(tries, l)
		if made > len(l) || (made == 0) != (len(l) == 0) {
			t.Fatalf("%d tries of %d", made, len(l))
		}
		if made == 0 {
			continue
		}
		if !sameResult(got, l[made-1]) {
			t.Fatalf("%s, not %s", show(got), show(l[made-1]))
		}
		for _, one := range l[:made-1] {
			if !Again(one) {
				t.Fatalf("another try behind %s", show(one))
			}
		}
		if Again(got) && made < len(l) && int64(made) < tries {
			t.Fatalf("%d tries of %d, though %d may be made", made, len(l), tries)
		}
	}
}

// P12.5: with more tries, or more places, what is enough is the same.
func TestMoreTries(t *testing.T) {
	r := newRandom(4)
	enough, not := 0, 0
	for range 50000 {
		tries, l := randomTries(r), randomRow(r)
		got, made := Run(tries, l)
		if made == 0 {
			continue
		}
		if Again(got) {
			not++
			continue
		}
		enough++
		more := tries + min(1+randomNumber(r)&(1<<62-1), 1<<63-1-max(tries, 0))
		longer := append(l[:len(l):len(l)], randomRow(r)...)
		for _, n := range []int64{tries, more, 1<<63 - 1} {
			for _, row := range [][]api.Result{l, longer} {
				if other, again := Run(n, row); !sameResult(other, got) || again != made {
					t.Fatalf("%d tries of %d: %s, %d, but %d tries of %d: %s, %d", tries, len(l), show(got), made, n, len(row), show(other), again)
				}
			}
		}
	}
	if enough < 1000 || not < 1000 {
		t.Errorf("%d rows that end by themselves, %d that do not", enough, not)
	}
}

// P12.6: it rises with k, with base and with most, and is never above most.
func TestWaitRises(t *testing.T) {
	l := edges()
	next := func(n int64) int64 { return n + min(1, 1<<63-1-max(n, 0)) }
	for _, k := range l {
		for _, base := range l {
			for _, most := range l {
				got := Wait(k, base, most)
				if got < 0 || got > max(most, 0) {
					t.Fatalf("Wait(%d, %d, %d): %d", k, base, most, got)
				}
				if Wait(next(k), base, most) < got || Wait(k, next(base), most) < got || Wait(k, base, next(most)) < got {
					t.Fatalf("Wait(%d, %d, %d) falls from %d", k, base, most, got)
				}
			}
		}
	}
	r := newRandom(5)
	for range 50000 {
		k, base, most := int64(r.IntN(70))-3, randomNumber(r), randomNumber(r)
		got := Wait(k, base, most)
		if Wait(k+int64(r.IntN(9)), max(base, randomNumber(r)), max(most, randomNumber(r))) < got {
			t.Fatalf("Wait(%d, %d, %d) falls from %d", k, base, most, got)
		}
	}
}
