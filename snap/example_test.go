package snap

import (
	"bytes"
	"testing"

	"conduit/api"
	"conduit/bus"
)

// The chapter's example 1.
func TestExampleSave(t *testing.T) {
	p := plan(t, "")
	b := saveAsSaid(t, p, bus.New(p))
	if len(b) != 16 || !bytes.Equal(b[:12], []byte{'C', 'N', 'D', 'S', 1, 0, 0, 0, 0, 0, 0, 0}) {
		t.Errorf("% x", b)
	}
	if st, e := loadAsSaid(t, p, b); e != api.OK || !same(st, api.Bus{}) {
		t.Error(st, e)
	}
}

// The chapter's example 2.
func TestExampleKeep(t *testing.T) {
	p := plan(t, `handler a = count caps save, load; route "x" -> a;`)
	st := after(p, publishing("x", number(5)), publishing("x", number(6)), working(2))
	l := keepAsSaid(t, p, st)
	want := []api.Done{{Id: 0, Result: api.Result{Has: true, Body: read(t, "([2, 0, 0, false], (nil, []))")}}}
	if !sameDones(l, want) {
		t.Error(l)
	}
	next, told := giveAsSaid(t, p, bus.New(p), l)
	if !sameDones(told, []api.Done{{Id: 0}}) || next.Posts[0].Built.Core.Count != 2 {
		t.Error(next, told)
	}
}
