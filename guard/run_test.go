package guard

import (
	"slices"
	"testing"

	"conduit/api"
)

// rowOf is acts by letters: g gives, s asks a size that is there, n one that is not, x is no act; o, a, p, i, c, d, e panic.
func rowOf(t *testing.T, s string) []api.Act {
	t.Helper()
	var l []api.Act
	for i, c := range s {
		n := int64(i)
		a := map[rune]api.Act{
			'g': {Op: api.ActGive, A: number(n)},
			's': {Op: api.ActSize, A: read(t, "[1, 2]")},
			'n': {Op: api.ActSize, A: number(n)},
			'x': {Op: api.NumActs, A: number(n)},
			'o': {Op: api.ActOwn, N: n},
			'a': {Op: api.ActAssert, A: number(n), N: api.KText},
			'p': {Op: api.ActOpen, A: read(t, "&nil")},
			'i': {Op: api.ActIndex, A: read(t, "[]"), N: n},
			'c': {Op: api.ActCompare, A: read(t, "%"), B: read(t, "%")},
			'd': {Op: api.ActDivide, A: number(n), B: number(0)},
			'e': {Op: api.ActError, N: n},
		}[c]
		l = append(l, a)
	}
	return l
}

// P11.2: which acts are done, and the places, the last one first.
func TestRun(t *testing.T) {
	for _, c := range []struct {
		acts string
		done int
	}{
		{"", 0}, {"g", 1}, {"gg", 2}, {"gsgsg", 5}, {"o", 1}, {"og", 1}, {"go", 2}, {"ggog", 3}, {"goo", 2},
		{"n", 1}, {"ng", 2}, {"xg", 2}, {"gnxsg", 5}, {"nxo", 3}, {"xnogo", 3},
		{"gag", 2}, {"gpg", 2}, {"gig", 2}, {"gcg", 2}, {"gdg", 2}, {"geg", 2}, {"aeiou", 1},
	} {
		results, places := runAsSaid(t, rowOf(t, c.acts))
		if len(results) != c.done || len(places) != c.done {
			t.Errorf("%s: %d results, %d places", c.acts, len(results), len(places))
		}
		for i, place := range places {
			if place != c.done-1-i {
				t.Errorf("%s: %v", c.acts, places)
			}
		}
	}
}

// P11.2: the result of the one that panicked stands at the end, and what it was.
func TestRunEnd(t *testing.T) {
	for acts, want := range map[string]string{
		"ggo": "panic own 2", "gga": "panic assert 1", "ggp": "panic nil 0", "ggi": "panic index 2", "ggc": "panic compare 0", "ggd": "panic divide 0", "gge": "panic error 2", "ggg": "2", "ggn": "no method", "ggx": "no method",
	} {
		results, _ := runAsSaid(t, rowOf(t, acts))
		if got := show(results[2]); got != want || show(results[0]) != "0" || show(results[1]) != "1" {
			t.Errorf("%s: %s", acts, got)
		}
	}
}

// P11.2, 0.8: no acts, nothing done and nothing put off.
func TestRunNothing(t *testing.T) {
	for _, l := range [][]api.Act{nil, {}, rowOf(t, "go")[:0]} {
		if results, places := Run(l); len(results) != 0 || len(places) != 0 {
			t.Error(results, places)
		}
	}
}

// P11.2: a long row, with a panic at its end, in its midst, and nowhere.
func TestRunLong(t *testing.T) {
	const many = 200000
	for _, at := range []int{many - 1, many / 2, -1} {
		l := slices.Repeat(rowOf(t, "g"), many)
		if at >= 0 {
			l[at] = api.Act{Op: api.ActOwn, N: 5}
		}
		runAsSaid(t, l)
	}
}

// P11.2: rows of anything.
func TestRandomRows(t *testing.T) {
	r := newRandom(2)
	for range 30000 {
		runAsSaid(t, randomRow(r))
	}
}
