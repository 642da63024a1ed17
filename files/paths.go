package files

import (
	"strings"
	"unicode/utf8"

	"conduit/api"
)

// maxPath is how many bytes a path has at most.
const maxPath = 1024

// fitPath tells whether a path is one of elements.
func fitPath(path string) bool {
	if len(path) > maxPath || !utf8.ValidString(path) {
		return false
	}
	for element := range strings.SplitSeq(path, "/") {
		if element == "" || element == "." || element == ".." {
			return false
		}
	}
	return true
}

// fitFiles tells whether files can lie in one store: none where another one lies, or where a directory must be for it.
func fitFiles(l []api.Entry) bool {
	for i, f := range l {
		if !fitPath(f.Path) || len(f.Data) > api.MaxBytes {
			return false
		}
		for _, other := range l[:i] {
			if f.Path == other.Path || isBelow(f.Path, other.Path) || isBelow(other.Path, f.Path) {
				return false
			}
		}
	}
	return true
}

// nameOf is a path's last element.
func nameOf(path string) string { return path[strings.LastIndexByte(path, '/')+1:] }

// join is the path of what lies by that name in a directory.
func join(dir, name string) string {
	if dir == "." {
		return name
	}
	return dir + "/" + name
}

// below is what of a path stands behind that of a directory; false: it does not lie below it.
func below(path, dir string) (string, bool) {
	if dir == "." {
		return path, true
	}
	if len(path) <= len(dir) || path[len(dir)] != '/' || path[:len(dir)] != dir {
		return "", false
	}
	return path[len(dir)+1:], true
}

func isBelow(path, dir string) bool {
	_, ok := below(path, dir)
	return ok
}
