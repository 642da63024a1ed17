package share

import (
	"math"
	"slices"
	"strconv"
	"strings"
	"testing"

	"conduit/api"
	"conduit/topic"
)

// A Hub that New did not give: false and empty lists, and it stays so.
func TestNotGiven(t *testing.T) {
	for _, h := range []*Hub{nil, {}} {
		for range 2 {
			for _, s := range []string{"a", "#", "$share/g/a", "$share/g/#", "", "+"} {
				if h.Join(s, 1) || h.Leave(s, 1) || h.Keep(msg("a", 1)) || h.Keep(without("a")) || len(h.Kept(s)) != 0 || len(h.Send(s)) != 0 {
					t.Errorf("%q", s)
				}
			}
		}
	}
}

// Every call ends and none panics, at messages of which nothing else is promised too.
func TestAnything(t *testing.T) {
	texts := append(wrongTexts(), someFilters()...)
	for _, n := range []int{math.MinInt, -1, 0, 1, math.MaxInt} {
		for _, h := range []*Hub{nil, {}, New()} {
			for _, s := range texts {
				odd := api.Msg{Id: int64(n), Topic: s, Body: api.Datum{Kind: n, List: make([]api.Datum, 3)}, At: -1, Until: int64(n), Reply: s, Hops: n, Prio: n}
				h.Keep(odd)
				h.Join(s, n)
				h.Join("$share/g/"+s, n)
				for _, other := range texts {
					h.Kept(other)
					h.Send(other)
				}
				h.Leave("$share/g/"+s, n)
				h.Leave("$share/g/"+s, n)
			}
		}
	}
}

// Filters and topics of as many levels as there can be.
func TestManyLevels(t *testing.T) {
	p := newPair()
	deep := long("/", mostBytes)
	for _, filter := range []string{deep, long("+/", mostBytes-1) + "+", long("+/", mostBytes-1) + "#", "#"} {
		p.joinAll(t, filter, 1)
		p.joinAll(t, "$share/g/"+filter, 1, 2)
	}
	p.keep(t, msg(deep, 1))
	for _, s := range []string{deep, deep[1:], long("a/", mostBytes-1)} {
		p.send(t, s)
		p.keptAsSaid(t, s)
	}
	p.keptAsSaid(t, long("+/", mostBytes-1)+"#")
	if !p.leave(t, "$share/g/"+deep, 1) || !p.leave(t, "$share/g/"+deep, 2) || !p.leave(t, deep, 1) {
		t.Error("not left")
	}
	p.send(t, deep)
}

// 0.3: the same again of the same calls, however a map is gone through; and hubs have nothing in common.
func TestSameAgain(t *testing.T) {
	r := newRandom(9)
	for range 40 {
		hubs := []*Hub{New(), New(), New()}
		for range 60 {
			text, name, m := randomText(r), pick(r, someNames()...), randomMsg(r)
			id, join := r.IntN(4), r.IntN(4) > 0
			var first string
			for i, h := range hubs {
				if join {
					h.Join(text, id)
				} else {
					h.Leave(text, id)
				}
				h.Keep(m)
				told := showMsgs(h.Kept("#"))
				for _, to := range h.Send(name) {
					told += " " + strconv.Itoa(to)
				}
				if i > 0 && told != first {
					t.Fatalf("%s, then %s", first, told)
				}
				first = told
			}
		}
	}
	if h := New(); len(h.Kept("#")) != 0 || len(h.Send("a")) != 0 {
		t.Error("a new one has something")
	}
}

// roomyBody is a value in memory with spare room behind its lists, where others stand.
func roomyBody(d api.Datum) api.Datum {
	var l []api.Datum
	for _, p := range d.List {
		l = append(l, roomyBody(p))
	}
	d.List = append(slices.Clip(l), number(77))[:len(l)]
	return d
}

// asMade tells whether nothing was written to such a value since, in its spare room neither.
func asMade(got, made api.Datum) bool {
	behind := got.List[:len(got.List)+1][len(got.List)]
	return behind.Int == 77 && slices.EqualFunc(got.List, made.List, asMade)
}

// scribble writes over messages, their bodies and all spare room.
func scribble(l []api.Msg) {
	l = l[:cap(l)]
	for i := range l {
		scribbleBody(l[i].Body)
		l[i] = msg("scribbled", -12345)
	}
}

func scribbleBody(d api.Datum) {
	l := d.List[:cap(d.List)]
	for i := range l {
		scribbleBody(l[i])
		l[i] = api.Datum{Kind: -1, Text: "scribbled"}
	}
}

// 0.4, 0.8: what is handed in stays as it is, spare room too, which plays no part; what is kept changes neither with it nor with what was handed out.
func TestMemory(t *testing.T) {
	r := newRandom(10)
	for range 2000 {
		p := newPair()
		for range 8 {
			m := randomMsg(r)
			in := m
			in.Body = roomyBody(m.Body)
			was := p.Keep(in)
			if !asMade(in.Body, m.Body) || !sameMsg(in, m) {
				t.Fatalf("%+v became %+v", m, in)
			}
			if was != p.said.keep(m) {
				t.Fatalf("Keep(%+v): %v", m, was)
			}
			scribbleBody(in.Body)
			one, two := p.Kept("#"), p.Kept("#")
			scribble(one)
			if !same(two, p.keptAsSaid(t, "#")) {
				t.Fatalf("%s changed with what was handed out beside it", showMsgs(two))
			}
		}
	}
}

// 0.4: no two lists of one answer share memory, and none the hub's.
func TestListsAreNew(t *testing.T) {
	p := newPair()
	body := list(number(1), number(2))
	p.Keep(api.Msg{Topic: "a", Body: body})
	p.Keep(api.Msg{Topic: "b", Body: body})
	l := p.Kept("+")
	scribbleBody(l[0].Body)
	if !sameBody(l[1].Body, body) || !sameBody(p.Kept("a")[0].Body, body) || body.List[0].Int != 1 {
		t.Error(showMsgs(l))
	}
	p.joinAll(t, "a", 3, 1, 2)
	p.joinAll(t, "$share/g/a", 5, 4)
	first := p.send(t, "a")
	for i := range first[:cap(first)] {
		first[:cap(first)][i] = -77
	}
	if got := p.send(t, "a"); !slices.Equal(got, []int{1, 2, 3, 4}) {
		t.Error(got)
	}
}

// 0.6: what answers false has changed nothing, at no turn.
func TestFalseChangesNothing(t *testing.T) {
	texts := append(wrongTexts(), "a", "$share/g/a", "$share/g/+", "$share/h/a")
	for turn := range 7 {
		p := with(t, "$share/g/a", 1, 2, 3)
		p.joinAll(t, "$share/g/+", 3, 2, 1)
		p.joinAll(t, "a", 1, 2, 3)
		p.keep(t, msg("b", 1))
		for range turn {
			p.send(t, "a")
		}
		for _, s := range texts {
			for id := range 5 {
				if (id == 0 || id == 4 || s == "$share/h/a") && p.leave(t, s, id) {
					t.Fatalf("Leave(%q, %d)", s, id)
				}
				if id > 0 && id < 4 && s != "$share/h/a" && p.join(t, s, id) {
					t.Fatalf("Join(%q, %d)", s, id)
				}
			}
		}
		if p.keep(t, without("a")) || len(p.keptAsSaid(t, "#")) != 1 {
			t.Error("Keep")
		}
		for range 7 {
			p.send(t, "a")
		}
	}
}

// Of members that have left, groups without members and messages that were taken away, nothing is kept.
func TestNothingLeft(t *testing.T) {
	r := newRandom(11)
	for range 40 {
		p, texts := newPair(), fewTexts(r)
		for range 60 {
			p.join(t, pick(r, texts...), r.IntN(4))
			p.send(t, pick(r, someNames()...))
			p.keep(t, randomMsg(r))
		}
		for _, s := range texts {
			for id := range 4 {
				p.leave(t, s, id)
			}
		}
		for _, s := range someNames() {
			p.keep(t, without(s))
		}
		if n := p.alone.Nodes() + p.filters.Nodes() + len(p.named) + len(p.numbered) + len(p.kept); n != 0 {
			t.Fatal(n)
		}
	}
}

// FuzzCalls makes the calls that lines of a text tell ("+" ahead: Join, "-": Leave, "=": Keep, "~": Keep without a value, "?": Kept and Split, else Send), and holds all answers against the chapter's words.
func FuzzCalls(f *testing.F) {
	f.Add("+a/#\n+$share/g/a/+\n+$share/g/a/+\na/b\na/b\n-$share/g/a/+\na/b\na")
	f.Add("=x/1\n=x/2\n=x/1\n?x/+\n~x/1\n~x/1\n?#\n?$share/g/#")
	f.Add("+$share/g\n+$share//a\n?$share/g/$share/h/a\n+$share/g!/#\n+$share/g/#\na\n$share/g/a")
	f.Fuzz(func(t *testing.T, calls string) {
		p := newPair()
		for i, line := range strings.Split(calls, "\n") {
			text := strings.TrimLeft(line, "+-=~?")
			switch {
			case text == line || line[0] == '=' && !topic.Name(line[1:]):
				p.send(t, text)
			case line[0] == '+':
				p.join(t, line[1:], i%4)
			case line[0] == '-':
				p.leave(t, line[1:], i%4)
			case line[0] == '=':
				p.keep(t, msg(line[1:], int64(i)))
			case line[0] == '~':
				p.keep(t, without(line[1:]))
			default:
				p.keptAsSaid(t, line[1:])
				splitAsSaid(t, line[1:])
			}
		}
		for _, name := range []string{"a", "a/b", "x/1", "$share/g/a"} {
			p.send(t, name)
			p.send(t, name)
		}
	})
}
