package check

import (
	"testing"

	"conduit/api"
)

const example = `handler a = store 5 caps flush, save with retry 3 with open buffer 10 0; route "x/#" -> a;`

// The chapter's example 1.
func TestExamplePlan(t *testing.T) {
	want := api.Plan{
		Handlers: []api.Named{{
			Name: "a",
			Chain: api.Chain{
				Core:  api.Core{Op: api.CoStore, Num: 5, Caps: 1<<api.CapFlush | 1<<api.CapSave},
				Wraps: []api.Wrap{{Op: api.WrRetry, A: 3}, {Op: api.WrBuffer, A: 10, Open: true}},
			},
			Inbox: 64,
		}},
		Routes: []api.Route{{Filter: "x/#"}},
	}
	if p := loaded(t, example); !exactly(p, want) {
		t.Error(p)
	}
}

// The chapter's example 2.
func TestExampleHandlers(t *testing.T) {
	refused(t, "handler a = @echo 3;", api.ErrRange)
	refused(t, "handler a = @echo caps batch;", api.ErrCaps)
	refused(t, "handler a = echo caps flush, @flush;", api.ErrTwice)
	refused(t, "handler a = of @b; handler b = echo;", api.ErrUnknown)
}

// The chapter's example 3.
func TestExampleWraps(t *testing.T) {
	for _, s := range []string{"retry", "retry 17", "through 1", "filter"} {
		refused(t, "handler a = echo with @"+s+";", api.ErrRange)
	}
	refused(t, "handler a = echo with @mask;", api.ErrCaps)
	for _, s := range []string{"map", "map:foo", "retry:double 3"} {
		refused(t, "handler a = echo with @"+s+";", api.ErrUnknown)
	}
}

// The chapter's example 4.
func TestExampleNumbers(t *testing.T) {
	if p := loaded(t, "handler a = fail -9223372036854775808;"); p.Handlers[0].Chain.Core.Num != -1<<63 {
		t.Error(p)
	}
	refused(t, "handler a = @fail -9223372036854775809;", api.ErrRange)
	refused(t, "@handler a = echo inbox 0;", api.ErrRange)
	refused(t, "@handler a = echo inbox 1025;", api.ErrRange)
	refused(t, `route @"a+" -> a;`, api.ErrFilter)
}

// The chapter's example 5.
func TestExampleWritten(t *testing.T) {
	want := "handler a = store 5 caps flush, save with retry 3 with open buffer 10 0 inbox 64 drop new;\nroute \"x/#\" -> a;\n"
	if s := Write(loaded(t, example)); s != want {
		t.Error(s)
	}
}
