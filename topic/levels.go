package topic

import (
	"iter"
	"strings"
	"unicode/utf8"

	"conduit/api"
)

// none stands where no level is left: no level has this byte.
const none = "/"

// pair is what two filters have at one place.
type pair [2]string

func isTopicText(s string) bool {
	return s != "" && len(s) <= api.MaxBytes && utf8.ValidString(s) && strings.IndexByte(s, 0) < 0
}

func isFilterLevel(level string) bool {
	return level == "+" || level == "#" || !strings.ContainsAny(level, "+#")
}

func eachLevel(s string) iter.Seq[string] {
	return func(yield func(string) bool) {
		rest, more := s, true
		for more {
			var level string
			level, rest, more = strings.Cut(rest, "/")
			if !yield(level) {
				return
			}
		}
	}
}

// filterLevels spells out the two filters of which no name has just the levels ahead of "#" (none at all, or the empty text): so those with the same names have the same levels.
func filterLevels(filter string) []string {
	switch filter {
	case "#":
		filter = "+/#"
	case "/#":
		filter = "/+/#"
	}
	return Levels(filter)
}

// sharedLevels is the levels of the filter that has just the names that two filters both have (which may be too long to be one); false, if they are no filters or their levels do not agree.
func sharedLevels(f, g string) ([]string, bool) {
	if !Filter(f) || !Filter(g) {
		return nil, false
	}
	return search(filterLevels(f), filterLevels(g))
}

func search(f, g []string) ([]string, bool) {
	places := max(len(f), len(g))
	shared := make([]string, 0, places)
	at := 0
next:
	p := pair{levelAt(f, at), levelAt(g, at)}
	level, ok := p.narrower()
	if !ok || at == 0 && p.hides(level) {
		return nil, false
	}
	if level != none {
		shared = append(shared, level)
	}
	at++
	if at < places {
		goto next
	}
	return shared, true
}

// levelAt takes "#" for what stands at all places behind it, too: it agrees with each that is left.
func levelAt(l []string, at int) string {
	if at < len(l) {
		return l[at]
	}
	if l[len(l)-1] == "#" {
		return "#"
	}
	return none
}

// narrower is the one of the two that agrees with nothing but what the other one does; where there is none, they have nothing in common.
func (p pair) narrower() (string, bool) {
	if isWithin(p[1], p[0]) {
		return p[1], true
	}
	if isWithin(p[0], p[1]) {
		return p[0], true
	}
	return "", false
}

func isWithin(level, wide string) bool {
	switch wide {
	case "#":
		return true
	case "+":
		return level != "#" && level != none
	}
	return level == wide
}

// hides tells of two first levels whether a "+" among them keeps back the other one, which begins with "$".
func (p pair) hides(level string) bool {
	return p[0] != p[1] && strings.HasPrefix(level, "$")
}

// shortestName leaves empty what "+" stands for, so that a name is not too long for want of a shorter one; but the empty text is no name.
func shortestName(filter []string) string {
	name := make([]string, 0, len(filter))
	for _, level := range filter {
		switch level {
		case "#":
		case "+":
			name = append(name, "")
		default:
			name = append(name, level)
		}
	}
	if len(name) == 1 && name[0] == "" {
		return "a"
	}
	return strings.Join(name, "/")
}
