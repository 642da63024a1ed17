package desk

import (
	"strings"
	"sync"
	"testing"
)

// P33.1: of a desk that New did not give nothing is answered, whatever is said, and it stays so.
func TestNobodys(t *testing.T) {
	given := New()
	given.Line("add handler a = count; route \"x\" -> a;")
	copied := *given
	for _, d := range []*Desk{nil, {}, new(Desk), &copied} {
		for _, s := range []string{"new", "", "add x", "text", "open", "publish x 5", "work 1", "save", "load", "bogus", "work x", strings.Repeat("x", 65537), "text"} {
			if got := d.Line(s); got != "" {
				t.Errorf("%.20q: %q", s, got)
			}
		}
	}
	if got := given.Line("text"); got != "handler a = count; route \"x\" -> a;\n" {
		t.Error("what was said to others was done", got)
	}
}

// P33.1 New: a new desk is empty, and each one a desk of its own.
func TestNew(t *testing.T) {
	a, b := New(), New()
	if a == b || a.Line("text") != "" || a.Line("save") != "error 333\n" || a.Line("check") != "ok: 0 handlers, 0 routes\n" {
		t.Error("not empty")
	}
	a.Line("add handler a = count; route \"x\" -> a;")
	a.Line("open")
	a.Line("save")
	if b.Line("text") != "" || b.Line("work 1") != "error 333\n" || b.Line("open") != "open\n" || b.Line("load") != "error 333\n" {
		t.Error("not apart")
	}
}

// 0.1: every line is answered, whatever its bytes are; each answer is lines that are ended by a byte 10.
func TestAnything(t *testing.T) {
	r := newRandom(7)
	letters := []string{"new", "add", "text", "check", "print", "open", "lint", "shown", "who", "explain", "publish", "ask", "work", "tick", "call", "deep", "close", "stats", "save", "load", " ", "\t", "  ", "\n", "\r", "\x00", "\xff", "a", "x", "y", "ping", "flush", "5", "nil", "[", "(", "\"", "&", "-1", "#", "\u20ac", "9999", "99999999999999999999"}
	for range 3000 {
		p := newPair()
		p.lines(t, opening(r)...)
		for range 8 {
			s := ""
			for range r.IntN(9) {
				s += pick(r, letters...) + pick(r, " ", " ", "")
			}
			if got := p.line(t, s); got != "" && !strings.HasSuffix(got, "\n") {
				t.Fatalf("%q: %q", s, got)
			}
		}
	}
}

// Values as deep and as great as they may be come through, and what comes of them can be saved and loaded; deeper and greater ones are none.
func TestGreatValues(t *testing.T) {
	p := newPair()
	p.lines(t, "add handler a = echo; handler b = echo with map:list; handler c = echo with map:pair; handler e = store caps save, load; handler f = count caps save, load;", "add route \"x\" -> a; route \"x\" -> b; route \"x\" -> c; route \"x\" -> e; route \"x\" -> f;", "open")
	for _, v := range []string{
		nested(14), nested(15), nested(16), nested(17), nested(60),
		"[" + strings.Repeat("1, ", 4093) + "1]", "[" + strings.Repeat("1, ", 4094) + "1]", "[" + strings.Repeat("1, ", 4095) + "1]",
		`"` + strings.Repeat("t", 65000) + `"`, "%" + strings.Repeat("00", 32000),
	} {
		p.lines(t, "publish x "+v, "explain x "+v, "ask x x 5 "+v, "work 20", "call f save", "call e save", "call e load "+v, "work 100", "save", "work 9")
		if got := p.line(t, "load"); got != "loaded\n" {
			t.Errorf("%.40q: %q", v, got)
		}
	}
}

// nested is a value that is so deep.
func nested(deep int) string {
	return strings.Repeat("[", deep-1) + "1" + strings.Repeat("]", deep-1)
}

// 0.3: many desks at a time go each their way.
func TestManyAtATime(t *testing.T) {
	r := newRandom(8)
	l := opening(r)
	for range 60 {
		l = append(l, strings.ReplaceAll(anyLine(r), "\n", " "))
	}
	text := strings.Join(l, "\n")
	want := Play(text)
	var all sync.WaitGroup
	for range 8 {
		all.Go(func() {
			for range 20 {
				if Play(text) != want {
					t.Error("another way")
				}
			}
		})
	}
	all.Wait()
}

// Lines as many as one may type in are done in their time.
func TestManyLines(t *testing.T) {
	text := "add handler a = count; route \"x\" -> a;\nopen\n" + strings.Repeat("publish x 5\nwork 1\n\n \nbogus\n", 20000)
	got := Play(text + "stats")
	if !strings.HasSuffix(got, "\na queued 20000 refused 0 dropped 0 late 0 done 20000 good 20000 panics 0 wait 0 longest 0\n") || strings.Count(got, "\n") != 80002 {
		t.Error(len(got))
	}
	if got := Play(strings.Repeat("add\n", 65536) + strings.Repeat("add\n", 100) + "text"); got != strings.Repeat("error 330\n", 100)+strings.Repeat("\n", 65536) {
		t.Error(len(got))
	}
}

// FuzzPlay looks for texts of which something else is answered than the chapter says.
func FuzzPlay(f *testing.F) {
	r := newRandom(9)
	for range 60 {
		l := opening(r)
		for range r.IntN(30) {
			l = append(l, anyLine(r))
		}
		f.Add(strings.Join(l, "\n"))
	}
	f.Fuzz(func(t *testing.T, text string) {
		if got, want := Play(text), newPair().lines(t, strings.Split(text, "\n")...); got != want {
			t.Fatalf("%q, not %q", got, want)
		}
	})
}
