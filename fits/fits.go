// Package fits tells of what all layers take whether it is fit, as the document's section Words has it.
package fits

import (
	"conduit/api"
	"conduit/datum"
	"conduit/topic"
)

// Tick tells whether a number is one.
func Tick(n int64) bool { return 0 <= n && n <= api.MaxTick }

// Msg tells whether a message is fit.
func Msg(m api.Msg) bool {
	return topic.Name(m.Topic) && (m.Reply == "" || topic.Name(m.Reply)) && Tick(m.At) && Tick(m.Until) && 0 <= m.Hops && m.Hops <= api.MaxHops && datum.Valid(m.Body)
}

// Msgs tells whether all of them are fit.
func Msgs(l []api.Msg) bool {
	for _, m := range l {
		if !Msg(m) {
			return false
		}
	}
	return true
}
