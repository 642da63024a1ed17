package shut

import (
	"sync"

	"conduit/api"
	"conduit/value"
)

// thing is something that is closed; outcome is what will have become of it then.
type thing struct {
	once    sync.Once
	outcome api.Done
}

func thingsOf(n int, outcomes []api.Result) []thing {
	l := make([]thing, n)
	for i := range l {
		l[i].outcome.Id = int64(i)
		if i < len(outcomes) {
			l[i].outcome.Result = outcomes[i]
		}
	}
	return l
}

// close panics where the outcome is a panic, as what is closed may do.
func (t *thing) close() api.Done {
	if t.outcome.Result.Err == api.ErrPanic {
		panic(failure{t.outcome})
	}
	return t.outcome
}

// closed is what has become of a thing behind its closing; a panic ends here, so that it keeps no other one from being closed.
func (t *thing) closed() (d api.Done) {
	defer func() {
		if came := recover(); came != nil {
			d = came.(failure).Done
		}
	}()
	return t.close()
}

// closing is things on their way of being closed, and what has become of those that are.
type closing struct {
	things []thing
	done   []api.Done
}

// inTurn closes things in that order. Each is put off, the last one first, as what was put off last is done first.
func (c *closing) inTurn(turns []int) {
	for at := len(turns) - 1; at >= 0; at-- {
		defer c.close(turns[at])
	}
}

// close closes a thing, unless it is closed already.
func (c *closing) close(i int) {
	t := &c.things[i]
	t.once.Do(func() { c.done = append(c.done, copied(t.closed())) })
}

// copied is a result in memory of its own.
func copied(d api.Done) api.Done {
	d.Result.Body = value.Copy(d.Result.Body)
	return d
}
