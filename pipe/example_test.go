package pipe

import (
	"testing"

	"conduit/api"
)

// is holds a copy's numbers and data against what is said.
func is(t *testing.T, c api.Copied, n int64, e api.Errno, way, reads, writes int, data string) {
	t.Helper()
	if c.N != n || c.Err != e || c.Way != way || c.Reads != reads || c.Writes != writes || c.Data != data {
		t.Errorf("%+v", c)
	}
}

var byTwos = api.Source{Data: "abcde", Sizes: []int{2}}

// The chapter's example 1.
func TestExampleSources(t *testing.T) {
	is(t, Copy(byTwos, anySink, 4), 5, api.OK, api.WayBuffer, 4, 3, "abcde")
	early, writes := byTwos, byTwos
	early.Early, writes.Writes = true, true
	is(t, Copy(early, anySink, 4), 5, api.OK, api.WayBuffer, 3, 3, "abcde")
	is(t, Copy(writes, anySink, 4), 5, api.OK, api.WayWrites, 0, 1, "abcde")
}

// The chapter's example 2.
func TestExampleReads(t *testing.T) {
	reads := anySink
	reads.Inner.Reads, reads.Inner.Bulk = true, 3
	is(t, Copy(byTwos, reads, 4), 5, api.OK, api.WayReads, 4, 0, "abcde")
	early := byTwos
	early.Early = true
	is(t, Copy(early, reads, 4), 5, api.OK, api.WayReads, 3, 0, "abcde")
	is(t, Copy(byTwos, aroundTo(reads, plain), 4), 5, api.OK, api.WayBuffer, 4, 3, "abcde")
}

// The chapter's example 3.
func TestExampleSinks(t *testing.T) {
	whole := api.Source{Data: "abcde"}
	is(t, Copy(whole, api.Sink{Inner: api.Sink0{Sizes: []int{1}, Room: -1}}, 9), 1, api.ErrShort, api.WayBuffer, 1, 1, "a")
	is(t, Copy(whole, api.Sink{Inner: api.Sink0{Room: 3}}, 9), 3, api.ErrRoom, api.WayBuffer, 1, 1, "abc")
	is(t, Copy(whole, api.Sink{Inner: api.Sink0{Room: -1, Over: true}}, 9), 0, api.ErrInvalid, api.WayBuffer, 1, 1, "abcde")
}

// The chapter's example 4.
func TestExampleSoMany(t *testing.T) {
	abc := api.Source{Data: "abc"}
	if c := CopyN(abc, anySink, 5, 9); c.N != 3 || c.Err != api.ErrEnd {
		t.Errorf("%+v", c)
	}
	if c := CopyN(abc, anySink, 2, 9); c.N != 2 || c.Err != api.OK || c.Left != 1 {
		t.Errorf("%+v", c)
	}
	if s, e := ReadAtLeast(abc, 4, 9); s != "abc" || e != api.ErrEnd {
		t.Error(s, e)
	}
	if s, e := ReadAtLeast(api.Source{}, 1, 9); s != "" || e != api.ErrNone {
		t.Error(s, e)
	}
	if s, e := ReadAtLeast(abc, 3, 2); s != "" || e != api.ErrSmall {
		t.Error(s, e)
	}
}
