// Package copies is copies of messages and states in memory of their own: what someone still has may not change with what comes of it.
package copies

import (
	"slices"

	"conduit/api"
	"conduit/value"
)

// Msg is a message in memory of its own.
func Msg(m api.Msg) api.Msg {
	m.Body = value.Copy(m.Body)
	return m
}

// Msgs is these messages in memory of their own; of none it is nil.
func Msgs(l []api.Msg) []api.Msg {
	if len(l) == 0 {
		return nil
	}
	out := make([]api.Msg, len(l))
	for i, m := range l {
		out[i] = Msg(m)
	}
	return out
}

// Core is a core's state in memory of its own.
func Core(st api.CoreState) api.CoreState {
	st.Last = value.Copy(st.Last)
	st.List = value.CopyAll(st.List)
	return st
}

// Built is a chain's state in memory of its own.
func Built(st api.Built) api.Built {
	st.Core = Core(st.Core)
	st.Wraps = slices.Clone(st.Wraps)
	for i := range st.Wraps {
		w := &st.Wraps[i]
		w.Dedup.Ids = slices.Clone(w.Dedup.Ids)
		w.Buffer.Msgs = Msgs(w.Buffer.Msgs)
	}
	return st
}

// Bus is a bus's state in memory of its own.
func Bus(st api.Bus) api.Bus {
	st.Asks.Wait = slices.Clone(st.Asks.Wait)
	st.Posts = slices.Clone(st.Posts)
	for i := range st.Posts {
		post := &st.Posts[i]
		post.Built = Built(post.Built)
		post.Inbox.Msgs = Msgs(post.Inbox.Msgs)
		post.Held = Msgs(post.Held)
	}
	return st
}
