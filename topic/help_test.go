package topic

import (
	"math/rand/v2"
	"slices"
	"strings"
	"unicode/utf8"
)

const most = 65535

// isName and isFilter are the chapter's words, gone through rune by rune.
func isName(s string) bool {
	return isText(s) && !strings.Contains(s, "+") && !strings.Contains(s, "#")
}

func isFilter(s string) bool {
	if !isText(s) {
		return false
	}
	l := strings.Split(s, "/")
	for i, level := range l {
		if strings.Contains(level, "+") && level != "+" {
			return false
		}
		if strings.Contains(level, "#") && (level != "#" || i < len(l)-1) {
			return false
		}
	}
	return true
}

func isText(s string) bool {
	if len(s) < 1 || len(s) > most {
		return false
	}
	for at := 0; at < len(s); {
		r, size := utf8.DecodeRuneInString(s[at:])
		if r == 0 || r == utf8.RuneError && size == 1 {
			return false
		}
		at += size
	}
	return true
}

// has is what Match is to answer of a filter and a name.
func has(filter, name string) bool {
	f, n := strings.Split(filter, "/"), strings.Split(name, "/")
	if (f[0] == "+" || f[0] == "#") && name[0] == '$' {
		return false
	}
	return agree(f, n)
}

func agree(f, n []string) bool {
	if len(f) == 0 {
		return len(n) == 0
	}
	if f[0] == "#" {
		return true
	}
	return len(n) > 0 && (f[0] == "+" || f[0] == n[0]) && agree(f[1:], n[1:])
}

// rows is all rows of up to so many levels, put together with "/".
func rows(levels []string, most int) []string {
	var out []string
	last := []string{""}
	for range most {
		var next []string
		for _, s := range last {
			for _, level := range levels {
				next = append(next, s+level+"/")
			}
		}
		for _, s := range next {
			out = append(out, strings.TrimSuffix(s, "/"))
		}
		last = next
	}
	return slices.DeleteFunc(out, func(s string) bool { return s == "" })
}

// smallFilters is all filters of up to three levels of these, and "#".
func smallFilters() []string {
	l := rows([]string{"", "a", "b", "$", "+"}, 3)
	for _, s := range slices.Clone(l) {
		l = append(l, s+"/#")
	}
	return append(l, "#", "/#")
}

// smallNames is enough to tell any two of smallFilters apart: two levels more than those have, and one more way to fill each.
func smallNames() []string { return rows([]string{"", "a", "b", "c", "$"}, 5) }

func newRandom(seed uint64) *rand.Rand { return rand.New(rand.NewPCG(seed, 3)) }

// randomText is a text of few bytes, so that many of them are filters, and some names.
func randomText(r *rand.Rand) string {
	parts := []string{"a", "b", "/", "/", "/", "+", "#", "$", "é", "\x00", "\xff", "/+/", "/#"}
	var b strings.Builder
	for range r.IntN(7) {
		n := r.IntN(len(parts))
		// The bytes that no topic has would else stand nearly everywhere.
		if (n == 9 || n == 10) && r.IntN(8) > 0 {
			n = 0
		}
		b.WriteString(parts[n])
	}
	return b.String()
}

func long(level string, bytes int) string { return strings.Repeat(level, bytes/len(level)) }
