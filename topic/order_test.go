package topic

import (
	"strings"
	"testing"
)

// table is which of the small names each small filter has, by has, a bit each.
type table struct {
	filters, names []string
	bits           [][]uint64
}

func newTable() table {
	t := table{filters: smallFilters(), names: smallNames()}
	for _, f := range t.filters {
		row := make([]uint64, (len(t.names)+63)/64)
		for i, n := range t.names {
			if has(f, n) {
				row[i/64] |= 1 << (i % 64)
			}
		}
		t.bits = append(t.bits, row)
	}
	return t
}

func (t table) covers(f, g int) bool {
	for i, row := range t.bits[g] {
		if row&^t.bits[f][i] != 0 {
			return false
		}
	}
	return true
}

func (t table) meets(f, g int) bool {
	for i, row := range t.bits[g] {
		if row&t.bits[f][i] != 0 {
			return true
		}
	}
	return false
}

// P3.4, P3.5, P3.8, of all pairs of small filters.
func TestAllSmallFilters(t *testing.T) {
	all := newTable()
	for i, f := range all.filters {
		for j, g := range all.filters {
			covers, meets := all.covers(i, j), all.meets(i, j)
			if Covers(f, g) != covers {
				t.Fatalf("Covers(%q, %q): %v", f, g, !covers)
			}
			if Meets(f, g) != meets {
				t.Fatalf("Meets(%q, %q): %v", f, g, !meets)
			}
			n, ok := Common(f, g)
			if ok != meets || ok && !(isName(n) && has(f, n) && has(g, n)) || !ok && n != "" {
				t.Fatalf("Common(%q, %q): %q, %v", f, g, n, ok)
			}
		}
	}
}

// P3.7: an order, up to those that have the same names.
func TestCoversIsAnOrder(t *testing.T) {
	all := newTable()
	covered := make([][]int, len(all.filters))
	for i, f := range all.filters {
		if !Covers(f, f) {
			t.Fatalf("%q does not cover itself", f)
		}
		for j, g := range all.filters {
			if !Covers(f, g) {
				continue
			}
			covered[i] = append(covered[i], j)
			if !Meets(f, g) || !Meets(g, f) {
				t.Fatalf("%q covers %q, but does not meet it", f, g)
			}
			if Covers(g, f) && !(all.covers(i, j) && all.covers(j, i)) {
				t.Fatalf("%q and %q cover each other, but have other names", f, g)
			}
		}
	}
	for i, l := range covered {
		for _, j := range l {
			for _, k := range covered[j] {
				if !Covers(all.filters[i], all.filters[k]) {
					t.Fatalf("%q covers %q, that one %q, but the first one not the last", all.filters[i], all.filters[j], all.filters[k])
				}
			}
		}
	}
}

// P3.7: what covers g has all that g has, by Match's own words.
func TestWhatCoversHasAll(t *testing.T) {
	r := newRandom(4)
	filters, names := smallFilters(), smallNames()
	for range 3000 {
		f, g := filters[r.IntN(len(filters))], filters[r.IntN(len(filters))]
		if !Covers(f, g) {
			continue
		}
		for range 200 {
			if n := names[r.IntN(len(names))]; Match(g, n) && !Match(f, n) {
				t.Fatalf("%q covers %q, but has not %q", f, g, n)
			}
		}
	}
}

// P3.4, P3.7: filters that have the same names cover each other; no others do.
func TestSameNames(t *testing.T) {
	for _, c := range []struct {
		f, g string
		same bool
	}{
		{"#", "+/#", true}, {"/#", "/+/#", true}, {"a", "a", true}, {"a/#", "a/+/#", false}, {"#", "+/+/#", false}, {"+/#", "+/+/#", false}, {"/#", "//#", false}, {"/#", "/+/+/#", false}, {"/#", "+/+/#", false}, {"$/#", "$/+/#", false}, {"#", "+", false}, {"/#", "/+", false}, {"//#", "//+/#", false}, {"+//#", "+//+/#", false},
	} {
		if (Covers(c.f, c.g) && Covers(c.g, c.f)) != c.same {
			t.Errorf("%q and %q: %v, %v", c.f, c.g, Covers(c.f, c.g), Covers(c.g, c.f))
		}
	}
}

// P3.4, P3.5: what is no filter covers nothing, is covered by nothing, and meets nothing, not even itself.
func TestNoFilters(t *testing.T) {
	none := []string{"", "a+", "#/", "a/#/b", "##", "a#", "\x00", "a/\x00", "\xff", "a/\xc3", long("a", most+1), long("a", most) + "/#", "+/" + long("/", most)}
	for _, f := range none {
		for _, g := range append([]string{"#", "+", "a", "/", "a/#", "$", "+/#"}, none...) {
			for _, c := range [][2]string{{f, g}, {g, f}} {
				n, ok := Common(c[0], c[1])
				if Covers(c[0], c[1]) || Meets(c[0], c[1]) || ok || n != "" {
					t.Errorf("%.10q, %.10q: no filters, but %v, %v, %q, %v", c[0], c[1], Covers(c[0], c[1]), Meets(c[0], c[1]), n, ok)
				}
			}
		}
	}
}

// P3.4, P3.5, P3.8, of texts of which many are no filters: whatever Covers, Meets and Common say holds of the names at hand.
func TestTextsAgainstNames(t *testing.T) {
	r := newRandom(5)
	for range 20000 {
		f, g := randomText(r), randomText(r)
		n, ok := Common(f, g)
		if ok != Meets(f, g) || ok != Meets(g, f) || ok && !(Match(f, n) && Match(g, n)) || !ok && n != "" {
			t.Fatalf("Common(%q, %q): %q, %v", f, g, n, ok)
		}
		covers := Covers(f, g)
		if covers && !(isFilter(f) && isFilter(g) && ok) {
			t.Fatalf("Covers(%q, %q), which do not meet", f, g)
		}
		for range 10 {
			n := randomText(r)
			if covers && Match(g, n) && !Match(f, n) || !ok && Match(f, n) && Match(g, n) {
				t.Fatalf("%q, %q: %v, %v, but there is %q", f, g, covers, ok, n)
			}
		}
		if isName(g) && (covers != Match(f, g) || ok != Match(f, g) || ok && n != g) {
			t.Fatalf("%q of the name %q: %v, %v, %q", f, g, covers, ok, n)
		}
	}
}

// P3.5: at the bound of MaxBytes: the long levels of both stand in the name.
func TestLongLevelsAtUnlikePlaces(t *testing.T) {
	for _, c := range []struct {
		f, g string
		room int // what is left for the two long levels, a and b
	}{
		{"A/+", "+/B", 65534}, {"A/#", "+/B", 65534}, {"A/#", "+/B/#", 65534}, {"A/+", "+/B/#", 65534}, {"+/A", "B/#", 65534},
		{"A/+/+", "+/B/+", 65533}, {"A/+/#", "+/+/B", 65533}, {"+/A/#", "+/+/B/#", 65533}, {"/A/+", "/+/B", 65533}, {"A/+/", "+/B/+", 65533}, {"A/#", "+/+/+/B", 65532},
		{"x/A/+", "x/+/B", 65532}, {"x/A/+", "+/+/B", 65532}, {"+/A/+", "+/+/B", 65533}, {"A/+/é", "+/B/é", 65531}, {"$/A/#", "$/+/B", 65532},
	} {
		for _, left := range []int{1, c.room / 2, c.room - 9} {
			for _, over := range []int{-1, 0, 1} {
				put := strings.NewReplacer("A", long("a", left), "B", long("b", c.room-left+over))
				f, g := put.Replace(c.f), put.Replace(c.g)
				// A level of nearly all the room may make its own filter too long: that is none, and meets nothing.
				fit := isFilter(f) && isFilter(g)
				if !fit && left == c.room/2 {
					t.Fatalf("%s, %s: no filters", c.f, c.g)
				}
				meets := over <= 0 && fit
				n, ok := Common(f, g)
				if ok != meets || Meets(f, g) != meets || Meets(g, f) != meets || Covers(f, g) || Covers(g, f) {
					t.Errorf("%s, %s, %d over: %v, %v", c.f, c.g, over, ok, Meets(f, g))
				}
				if ok && !(len(n) <= most && isName(n) && has(f, n) && has(g, n)) || !ok && n != "" {
					t.Errorf("%s, %s, %d over: a name of %d bytes", c.f, c.g, over, len(n))
				}
			}
		}
	}
}

// P3.5: many levels that each alone are short.
func TestManyLevels(t *testing.T) {
	f, g := long("a/+/", most-3), long("+/b/", most-3)
	for _, c := range []struct {
		f, g string
		is   bool
	}{
		{f + "a", g + "a", true}, {f + "#", g + "#", true}, {f + "a", g + "b", false}, {f + "+", g + "b", true}, {f + "a", "#", true}, {f + "a", "+/#", true}, {f + "a", "$/#", false},
	} {
		n, ok := Common(c.f, c.g)
		if ok != c.is || Meets(c.f, c.g) != c.is || ok && !(Match(c.f, n) && Match(c.g, n)) {
			t.Errorf("%.9q.., %.9q..: %v", c.f, c.g, ok)
		}
	}
	if !Covers("#", f+"a") || !Covers(f+"#", f+"a") || Covers(f+"a", f+"#") || !Covers(long("+/", most-3)+"#", g+"#") {
		t.Error("Covers of many levels")
	}
}

// P3.4, at MaxBytes: a filter that long has names of several lengths, yet.
func TestCoversOfLong(t *testing.T) {
	a := long("a", most-2)
	for _, c := range []struct {
		f, g   string
		covers bool
	}{
		{a + "/#", a + "/+", true}, {a + "/+", a + "/#", false}, {a + "/#", a, true}, {a, a + "/#", false}, {a + "/b", a + "/+", false}, {a + "/", a + "/+", false}, {"+/+", a + "/+", true}, {"+/+", a + "/#", false}, {"+/#", a + "/#", true}, {"+/+/#", a + "/#", false}, {"#", a + "/#", true}, {a + "/#", "#", false}, {a + "/#", a + "//", true}, {a + "/+", a + "//", false}, {a + "/+", long("a", most-3) + "b/+", false},
	} {
		if Covers(c.f, c.g) != c.covers {
			t.Errorf("Covers(%.3q.. of %d, %.3q.. of %d bytes): %v", c.f, len(c.f), c.g, len(c.g), !c.covers)
		}
	}
}
