package files

import "strings"

// set is the bytes that may stand somewhere, a bit each.
type set [4]uint64

func (s *set) add(from, to byte) {
	for b := int(from); b <= int(to); b++ {
		s[b/64] |= 1 << (b % 64)
	}
}

func (s set) has(b byte) bool { return s[b/64]>>(b%64)&1 == 1 }

// turned is all bytes but those.
func (s set) turned() set {
	for i := range s {
		s[i] = ^s[i]
	}
	return s
}

// without is all of them but one.
func (s set) without(b byte) set {
	s[b/64] &^= 1 << (b % 64)
	return s
}

func only(b byte) (s set) {
	s.add(b, b)
	return s
}

// part of a pattern: a byte of a set, or many of them, none too.
type part struct {
	set
	many bool
}

type pattern []part

// parsed takes a pattern apart; false: it is none.
func parsed(s string) (pattern, bool) {
	var p pattern
	for s != "" {
		x, rest, ok := firstPart(s)
		if !ok {
			return nil, false
		}
		p, s = append(p, x), rest
	}
	return p, true
}

func firstPart(s string) (x part, rest string, ok bool) {
	switch s[0] {
	case '*', '?':
		return part{only('/').turned(), s[0] == '*'}, s[1:], true
	case '[':
		in, rest, ok := class(s[1:])
		return part{set: in}, rest, ok
	case '\\':
		if len(s) == 1 {
			return part{}, "", false
		}
		s = s[1:]
	}
	return part{set: only(s[0])}, s[1:], true
}

// class is the bytes of a class, of which the "[" is read.
func class(s string) (in set, rest string, ok bool) {
	s, but := strings.CutPrefix(s, "^")
	for first := true; first || !strings.HasPrefix(s, "]"); first = false {
		var from, to byte
		if from, to, s, ok = fromTo(s); !ok {
			return set{}, "", false
		}
		in.add(from, to)
	}
	if but {
		in = in.turned()
	}
	return in.without('/'), s[1:], true
}

// fromTo is a range of a class, from one byte to another.
func fromTo(s string) (from, to byte, rest string, ok bool) {
	if from, s, ok = bound(s); !ok {
		return 0, 0, "", false
	}
	if behind, is := strings.CutPrefix(s, "-"); is {
		to, rest, ok = bound(behind)
		return from, to, rest, ok
	}
	return from, from, s, true
}

// bound is a byte of a range, perhaps behind a \.
func bound(s string) (b byte, rest string, ok bool) {
	s, plain := strings.CutPrefix(s, `\`)
	if s == "" || !plain && (s[0] == '-' || s[0] == ']') {
		return 0, "", false
	}
	return s[0], s[1:], true
}

// has tells whether the parts have a name, one behind the other. Where they do not, only the last part of many that was come to takes a byte more: all that those ahead of it could take more, it can take as well.
func (p pattern) has(name string) bool {
	at, i := 0, 0
	last, from := -1, 0
	for i < len(name) {
		switch {
		case at < len(p) && p[at].many:
			last, from = at, i
			at++
		case at < len(p) && p[at].has(name[i]):
			at, i = at+1, i+1
		case last >= 0 && p[last].has(name[from]):
			from++
			at, i = last+1, from
		default:
			return false
		}
	}
	for at < len(p) && p[at].many {
		at++
	}
	return at == len(p)
}
