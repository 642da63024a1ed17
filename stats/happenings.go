package stats

import (
	"iter"

	"conduit/api"
)

// The small types that stand for the events that are counted.
type (
	queued  struct{}
	refused struct{}
	dropped struct{}
	late    struct{}
	done    struct {
		err    api.Errno
		wait   int64
		waited bool // it was told when the message was published
	}
)

// happenings gives, of the first n handlers, what has happened and to which of them; nil of what is not counted.
func happenings(n int, l []api.Event) iter.Seq2[int, any] {
	return func(yield func(int, any) bool) {
		published := clock{}
		for _, e := range l {
			h := published.happening(e)
			if 0 <= e.Handler && e.Handler < n && !yield(e.Handler, h) {
				return
			}
		}
	}
}

// clock is when messages were published, the last time each, by their numbers.
type clock map[int64]int64

// happening is what stands for an event; nil for those that are not counted.
func (c clock) happening(e api.Event) any {
	switch e.Kind {
	case api.EvPublished:
		c[e.Id] = e.At
	case api.EvQueued:
		return queued{}
	case api.EvRefused:
		return refused{}
	case api.EvDropped:
		return dropped{}
	case api.EvLate:
		return late{}
	case api.EvDone:
		return c.done(e)
	}
	return nil
}

func (c clock) done(e api.Event) done {
	d := done{err: e.Result.Err}
	if since, told := c[e.Id]; told {
		d.wait, d.waited = max(e.At-since, 0), true
	}
	return d
}

// waited is how long a result was waited for; false of all else.
func waited(happening any) (int64, bool) {
	if d, is := happening.(done); is {
		return d.wait, d.waited
	}
	return 0, false
}
