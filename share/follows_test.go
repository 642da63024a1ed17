package share

import (
	"slices"
	"testing"

	"conduit/api"
	"conduit/topic"
)

// P30.6: from any turn on, over any row of messages that a group has, each member gets as many as any other one, or one more or less.
func TestFair(t *testing.T) {
	r := newRandom(5)
	for range 300 {
		p := newPair()
		var ids []int
		for range 40 {
			id := r.IntN(12)
			switch {
			case r.IntN(3) > 0:
				if p.join(t, "$share/g/a/#", id) {
					ids = append(ids, id)
				}
			case p.leave(t, "$share/g/a/#", id):
				ids = slices.DeleteFunc(ids, func(x int) bool { return x == id })
			}
			if r.IntN(2) == 0 {
				p.send(t, "a")
			}
		}
		// Others come and go meanwhile: the group itself is without change.
		got := map[int]int{}
		for range r.IntN(60) {
			switch r.IntN(4) {
			case 0:
				p.join(t, pick(r, "a/#", "$share/h/a/#", "$share/g/a/+"), 50+r.IntN(4))
			case 1:
				p.leave(t, pick(r, "a/#", "$share/h/a/#", "$share/g/a/+"), 50+r.IntN(4))
			}
			for _, id := range p.send(t, pick(r, "a", "a/b", "b", "a/b/c", "")) {
				got[id]++
			}
			least, most := 1<<62, 0
			for _, id := range ids {
				least, most = min(least, got[id]), max(most, got[id])
			}
			if len(ids) > 0 && most > least+1 {
				t.Fatalf("%v: %v", ids, got)
			}
		}
	}
}

// P30.7: one alone in its group gets every message that the filter has, however many were there before.
func TestOneAlone(t *testing.T) {
	r := newRandom(6)
	for _, filter := range someFilters() {
		s := "$share/g/" + filter
		p := with(t, s, 5)
		for id := range 4 {
			p.joinAll(t, s, id)
		}
		for range 5 {
			p.send(t, pick(r, someNames()...))
		}
		for id := range 4 {
			p.leave(t, s, id)
		}
		for range 3 {
			for _, name := range append(someNames(), "", "+", "none") {
				if got := p.send(t, name); topic.Match(filter, name) != slices.Equal(got, []int{5}) || len(got) > 1 {
					t.Errorf("%q: %q: %v", s, name, got)
				}
			}
		}
	}
}

// P30.8: what is kept last under a topic is what is told of it, whatever was kept elsewhere.
func TestKeptLast(t *testing.T) {
	r := newRandom(7)
	for range 300 {
		whole, part := New(), New()
		name := pick(r, someNames()...)
		for range 60 {
			m := randomMsg(r)
			whole.Keep(m)
			if m.Topic == name {
				part.Keep(m)
			}
		}
		for _, filter := range []string{name, "#", "+/b", "a/#", "$s/#", "$share"} {
			l := slices.DeleteFunc(whole.Kept(filter), func(m api.Msg) bool { return m.Topic != name })
			if want := part.Kept(filter); !same(l, want) {
				t.Fatalf("%q, %q: %s, not %s", name, filter, showMsgs(l), showMsgs(want))
			}
		}
	}
}

// P30.9: Join that answered true, with Leave right behind it, is as if neither had been.
func TestJoinedAndLeft(t *testing.T) {
	r := newRandom(8)
	for range 300 {
		h, twin := New(), New()
		texts, done := fewTexts(r), 0
		for range 80 {
			text, id := pick(r, texts...), r.IntN(5)
			switch r.IntN(4) {
			case 0:
				if h.Join(text, id) != twin.Join(text, id) {
					t.Fatalf("Join(%q, %d)", text, id)
				}
			case 1:
				if h.Leave(text, id) != twin.Leave(text, id) {
					t.Fatalf("Leave(%q, %d)", text, id)
				}
			default:
				name := pick(r, someNames()...)
				if a, b := h.Send(name), twin.Send(name); !slices.Equal(a, b) {
					t.Fatalf("Send(%q): %v, not %v", name, a, b)
				}
			}
			text, id = pick(r, append(texts, randomText(r))...), r.IntN(9)
			if h.Join(text, id) {
				done++
				if !h.Leave(text, id) {
					t.Fatalf("Leave(%q, %d)", text, id)
				}
			}
		}
		for range 6 {
			for _, name := range someNames() {
				if a, b := h.Send(name), twin.Send(name); !slices.Equal(a, b) {
					t.Fatalf("behind %d: Send(%q): %v, not %v", done, name, a, b)
				}
			}
		}
	}
}
