package files

import "strings"

// glob asks the store for a pattern's paths, or goes through it by hand.
func glob(s store, text string) []string {
	if able, ok := as[globber](s); ok {
		return able.glob(text)
	}
	return byHand(s, text)
}

func byHand(s store, text string) []string {
	first := strings.IndexAny(text, `*?[\`)
	if first < 0 {
		if _, err := stat(s, text); err != nil {
			return nil
		}
		return []string{text}
	}
	dir, rest := halves(text, first)
	paths := []string{dir}
	for element := range strings.SplitSeq(rest, "/") {
		paths = further(s, paths, element)
	}
	return paths
}

// halves is the directory from which on a pattern is gone through, and what of it stands behind: it is cut at the last "/" ahead of its first special byte.
func halves(text string, special int) (dir, rest string) {
	switch at := strings.LastIndexByte(text[:special], '/'); at {
	case -1:
		return ".", text
	case 0:
		return "/", text[1:]
	default:
		return text[:at], text[at+1:]
	}
}

// further is the paths one element on, by names that the element has; if it is no pattern, it has none.
func further(s store, dirs []string, element string) []string {
	p, ok := parsed(element)
	var paths []string
	for _, dir := range dirs {
		l, err := readDir(s, dir)
		if err != nil || !ok {
			continue
		}
		for _, x := range l {
			if p.has(x.Name) {
				paths = append(paths, join(dir, x.Name))
			}
		}
	}
	return paths
}
