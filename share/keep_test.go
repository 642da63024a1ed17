package share

import (
	"testing"

	"conduit/api"
)

// P30.4: what is kept under a topic takes the place of what was; without a value, it is taken away, and whether there was any is told.
func TestKeep(t *testing.T) {
	p := newPair()
	if p.keep(t, without("a")) || !p.keep(t, msg("a", 1)) || !p.keep(t, msg("a", 1)) || !p.keep(t, msg("a", 2)) {
		t.Error("a")
	}
	if l := p.keptAsSaid(t, "a"); len(l) != 1 || l[0].Body.Int != 2 {
		t.Error(showMsgs(l))
	}
	if p.keep(t, without("a/")) || p.keep(t, without("A")) || !p.keep(t, without("a")) || p.keep(t, without("a")) || len(p.keptAsSaid(t, "#")) != 0 {
		t.Error("not taken away")
	}
	if !p.keep(t, msg("a", 3)) || len(p.keptAsSaid(t, "#")) != 1 {
		t.Error("not kept again")
	}
}

// P30.4: only KNil is no value: others that seem to be nought are kept.
func TestKeepNought(t *testing.T) {
	for kind := range api.NumKinds {
		p := newPair()
		if p.keep(t, api.Msg{Topic: "a", Body: api.Datum{Kind: kind}}) != (kind != api.KNil) || len(p.keptAsSaid(t, "a")) != min(kind, 1) {
			t.Error(kind)
		}
	}
}

// P30.4: the message is kept as it is, all its fields.
func TestKeepWhole(t *testing.T) {
	m := api.Msg{Id: -5, Topic: "$s/1", Body: list(number(1), list(), api.Datum{Kind: api.KText, Text: "t"}), At: 7, Until: 9, Reply: "r", Corr: -8, Prio: -3, Hops: 8}
	p := newPair()
	p.keep(t, m)
	if l := p.keptAsSaid(t, "$s/+"); len(l) != 1 || !sameMsg(l[0], m) {
		t.Error(showMsgs(l))
	}
}

// P30.5: rising by topic, byte by byte, just those that the filter has.
func TestKept(t *testing.T) {
	p := newPair()
	for i, s := range []string{"b", "a/b", "a", "\u00e4", "a!", "a0", "$s", "/", "B", "a/", "$share/g/a", "$share"} {
		p.keep(t, msg(s, int64(i)))
	}
	for filter, want := range map[string][]string{
		"#":          {"/", "B", "a", "a!", "a/", "a/b", "a0", "b", "\u00e4"},
		"+":          {"B", "a", "a!", "a0", "b", "\u00e4"},
		"a/#":        {"a", "a/", "a/b"},
		"a":          {"a"},
		"+/+":        {"/", "a/", "a/b"},
		"$s":         {"$s"},
		"$s/#":       {"$s"},
		"$share":     {"$share"},
		"x":          nil,
		"$share/g/a": nil,
		"$share/g/#": nil,
		"":           nil,
		"a+":         nil,
	} {
		l := p.keptAsSaid(t, filter)
		if len(l) != len(want) {
			t.Errorf("%q: %s", filter, showMsgs(l))
			continue
		}
		for i, s := range want {
			if l[i].Topic != s {
				t.Errorf("%q: %s", filter, showMsgs(l))
			}
		}
	}
	for _, s := range wrongTexts() {
		if l := p.keptAsSaid(t, s); len(l) != 0 {
			t.Errorf("%.30q: %s", s, showMsgs(l))
		}
	}
}

// P30.4, P30.5, of rows of calls against the chapter's words on lists.
func TestKeepAgainstLists(t *testing.T) {
	r := newRandom(4)
	for range 300 {
		p := newPair()
		for range 40 {
			if r.IntN(3) > 0 {
				p.keep(t, randomMsg(r))
			} else {
				p.keptAsSaid(t, pick(r, pick(r, someFilters()...), randomText(r)))
			}
		}
		for _, filter := range someFilters() {
			p.keptAsSaid(t, filter)
		}
	}
}
