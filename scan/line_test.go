package scan

import (
	"math"
	"strings"
	"testing"
)

// P6.4: lines and columns.
func TestLine(t *testing.T) {
	for _, c := range []struct {
		src               string
		pos, line, column int
	}{
		{"", 0, 1, 1}, {"", 1, 1, 1}, {"", -1, 1, 1},
		{"ab\ncd", 0, 1, 1}, {"ab\ncd", 1, 1, 2}, {"ab\ncd", 2, 1, 3}, {"ab\ncd", 3, 2, 1}, {"ab\ncd", 4, 2, 2}, {"ab\ncd", 5, 2, 3},
		{"ab\ncd", 6, 2, 3}, {"ab\ncd", math.MaxInt, 2, 3}, {"ab\ncd", -1, 1, 1}, {"ab\ncd", math.MinInt, 1, 1},
		{"\n", 0, 1, 1}, {"\n", 1, 2, 1}, {"\n\n\n", 3, 4, 1}, {"\n\n\n", 2, 3, 1}, {"\n\n\n", 4, 4, 1},
		{"a\r\nb\rc", 3, 2, 1}, {"a\r\nb\rc", 6, 2, 4}, {"é\n\xff", 2, 1, 3}, {"é\n\xff", 4, 2, 2},
	} {
		if line, column := Line([]byte(c.src), c.pos); line != c.line || column != c.column {
			t.Errorf("%q at %d: %d %d", c.src, c.pos, line, column)
		}
	}
	if line, column := Line(nil, 7); line != 1 || column != 1 {
		t.Error(line, column)
	}
}

// P6.4: going through a text byte by byte; longer ones than Scan takes, too.
func TestLineByLine(t *testing.T) {
	r := newRandom(4)
	for range 300 {
		s := mixed(r, 20)
		for line, text := range strings.Split(s, "\n") {
			from := len(strings.Join(strings.Split(s, "\n")[:line], "\n"))
			if line > 0 {
				from++
			}
			for i := range len(text) + 1 {
				if l, c := Line([]byte(s), from+i); l != line+1 || c != i+1 {
					t.Fatalf("%q at %d: %d %d", s, from+i, l, c)
				}
			}
		}
	}
	if l, c := Line([]byte(strings.Repeat("ab\n", 100000)), 299999); l != 100000 || c != 3 {
		t.Error(l, c)
	}
}
