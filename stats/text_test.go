package stats

import (
	"fmt"
	"slices"
	"strings"
	"testing"

	"conduit/api"
)

// P32.4: field by field together, Longest the greater one.
func TestAdd(t *testing.T) {
	a := api.Counts{Queued: 1, Refused: 2, Dropped: 3, Late: 4, Done: 5, Good: 6, Panics: 7, Wait: 8, Longest: 9}
	b := api.Counts{Queued: 10, Refused: 200, Dropped: 3000, Late: 40000, Done: 500000, Good: 6000000, Panics: 70000000, Wait: 800000000, Longest: 4}
	want := api.Counts{Queued: 11, Refused: 202, Dropped: 3003, Late: 40004, Done: 500005, Good: 6000006, Panics: 70000007, Wait: 800000008, Longest: 9}
	if Add(a, b) != want || Add(b, a) != want || Add(a, api.Counts{}) != a || Add(api.Counts{}, b) != b {
		t.Error(Add(a, b), Add(b, a))
	}
}

// P32.4: sums wrap round; of two that are below 0 the greater one is below 0, too.
func TestAddWrapsRound(t *testing.T) {
	const most, least = 1<<63 - 1, -1 << 63
	all := func(n, longest int64) api.Counts {
		return api.Counts{Queued: n, Refused: n, Dropped: n, Late: n, Done: n, Good: n, Panics: n, Wait: n, Longest: longest}
	}
	for _, c := range []struct{ a, b, want api.Counts }{
		{all(most, most), all(1, 1), all(least, most)},
		{all(least, -5), all(-1, -7), all(most, -5)},
		{all(most, least), all(most, -1), all(-2, -1)},
		{all(least, least), all(least, least), all(0, least)},
	} {
		if Add(c.a, c.b) != c.want || Add(c.b, c.a) != c.want {
			t.Error(c.a, c.b, Add(c.a, c.b))
		}
	}
}

// chapterText is P32.5.
func chapterText(p api.Plan, l []api.Counts) (s string) {
	for i, h := range p.Handlers {
		var c api.Counts
		if i < len(l) {
			c = l[i]
		}
		s += fmt.Sprintf("%s queued %d refused %d dropped %d late %d done %d good %d panics %d wait %d longest %d\n", h.Name, c.Queued, c.Refused, c.Dropped, c.Late, c.Done, c.Good, c.Panics, c.Wait, c.Longest)
	}
	return s
}

// P32.5: a line for each handler of the plan, zeros where nothing is counted of it; what is counted of more handlers plays no part.
func TestText(t *testing.T) {
	p := plan(t, `handler first = count; handler b_2 = echo; handler c = echo;`)
	counts := []api.Counts{{Queued: 1, Refused: 2, Dropped: 3, Late: 4, Done: 5, Good: 6, Panics: 7, Wait: 8, Longest: 9}, {Wait: lastTick}, {Good: 1}, {Done: 77}}
	lines := []string{
		"first queued 1 refused 2 dropped 3 late 4 done 5 good 6 panics 7 wait 8 longest 9\n",
		"b_2 queued 0 refused 0 dropped 0 late 0 done 0 good 0 panics 0 wait 1099511627776 longest 0\n",
		"c queued 0 refused 0 dropped 0 late 0 done 0 good 1 panics 0 wait 0 longest 0\n",
	}
	nought := []string{
		"first queued 0 refused 0 dropped 0 late 0 done 0 good 0 panics 0 wait 0 longest 0\n",
		"b_2 queued 0 refused 0 dropped 0 late 0 done 0 good 0 panics 0 wait 0 longest 0\n",
		"c queued 0 refused 0 dropped 0 late 0 done 0 good 0 panics 0 wait 0 longest 0\n",
	}
	for n := range len(counts) + 1 {
		k := min(n, 3)
		want := strings.Join(slices.Concat(lines[:k], nought[k:]), "")
		if s := Text(p, counts[:n]); s != want || s != chapterText(p, counts[:n]) {
			t.Errorf("%d: %s", n, s)
		}
	}
	if Text(api.Plan{}, counts) != "" || Text(api.Plan{Routes: p.Routes}, nil) != "" {
		t.Error("no handlers")
	}
}

// P32.5: all counts, such as are below 0, too; 0.8: and what stands in spare room is not written.
func TestTextOfAnyCounts(t *testing.T) {
	r := newRandom(2)
	p := plan(t, `handler a = count; handler b = echo with retry 3 after a; handler c = echo; route "#" -> b;`)
	for range 3000 {
		var l []api.Counts
		for range r.IntN(6) {
			l = append(l, randomCounts(r))
		}
		for n := range len(l) + 1 {
			if s := Text(p, l[:n]); s != chapterText(p, l[:n]) {
				t.Fatal(s)
			}
		}
	}
}
