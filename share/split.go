package share

import (
	"strings"
	"unicode/utf8"

	"conduit/topic"
)

// Split is the group and the filter of what is subscribed to.
func Split(filter string) (string, string, bool) {
	name, has := "", filter
	if left, shared := strings.CutPrefix(filter, "$share/"); shared {
		name, has, _ = strings.Cut(left, "/")
		if !isGroupName(name) {
			return "", "", false
		}
	}
	// Where no "/" stands behind the group's name, the filter is empty, which is none.
	if !topic.Filter(has) {
		return "", "", false
	}
	return name, has, true
}

// isGroupName is asked of what stands ahead of a "/", so that there is none in it.
func isGroupName(s string) bool {
	return s != "" && utf8.ValidString(s) && !strings.ContainsAny(s, "+#\x00")
}
