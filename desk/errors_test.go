package desk

import (
	"fmt"
	"strings"
	"testing"

	"conduit/api"
)

// P33.1, ErrCommand: words are those of the table alone, letter by letter.
func TestNoCommands(t *testing.T) {
	p := newPair()
	for _, opened := range []string{"", "open"} {
		p.line(t, opened)
		for _, s := range []string{"bogus", "New", "news", "ne", "ADD", "add\x00", "adds x", "quit", "help", "route", "?", "5", "nil", "\"open\"", "new;", "loads", "publishes x 5"} {
			if got := p.line(t, s); got != "error 331\n" {
				t.Errorf("%q: %q", s, got)
			}
		}
	}
}

// P33.1, ErrOperand: too few and too many words, and a rest that is "", of each word; told ahead of ErrNothing and of what is wrong with the words.
func TestOperands(t *testing.T) {
	l := strings.Split("new x|new new|text 5|text text|check a|print a|open a|open \t open|lint a|shown|shown |shown a b|shown zz zz|who|who a|who a |who zz|who a close x|who zz zz zz|explain|explain x|explain x |explain +|publish|publish x|publish x |publish + |ask|ask x|ask x y|ask x y 3|ask x y 3 |ask + + 3|ask x y z 5|ask + + z 01|work|work |work a|work 1 1|work 1 x|tick|tick |tick a|tick 1 1|call|call a|call a |call zz|deep|deep a|deep  a  |close a|close 1|stats a|save a|load a", "|")
	for _, opened := range []bool{false, true} {
		p := newPair()
		if opened {
			p.lines(t, "add handler a = echo; route \"x\" -> a;", "open", "save")
		}
		for _, s := range l {
			if got := p.line(t, s); got != "error 332\n" {
				t.Errorf("%v: %q: %q", opened, s, got)
			}
		}
	}
}

// P33.1: numbers are from 0 to 10000, in the one form that Print gives them.
func TestNumbers(t *testing.T) {
	p := newPair()
	p.lines(t, "add handler a = echo;", "open")
	for _, n := range []string{"0", "1", "9", "10", "99", "1000", "9999", "10000"} {
		for _, form := range []string{"work %s", "tick %s", "ask x y %s 5"} {
			if got := p.line(t, fmt.Sprintf(form, n)); strings.HasPrefix(got, "error") {
				t.Error(form, n, got)
			}
		}
	}
	for _, n := range []string{"-1", "-0", "+0", "+1", "00", "01", "010000", "10001", "99999", "9223372036854775807", "9223372036854775808", "18446744073709551617", "-9223372036854775808", "1e3", "1.0", "0x1", "0b1", "1_000", "1,", "#1", "\u0661", "1\u00a0", "f0", "nil", "\xff", "--1"} {
		for _, form := range []string{"work %s", "tick %s", "ask x y %s 5", "ask + + %s 01"} {
			if got := p.line(t, fmt.Sprintf(form, n)); got != "error 332\n" {
				t.Error(form, n, got)
			}
		}
	}
}

// P33.1, ErrNothing: each word from lint on asks for an open plan, ahead of what is wrong with its words; load for a snapshot, too.
func TestNothing(t *testing.T) {
	l := strings.Split("lint|shown zz|who zz zz|explain + 01|publish + 01|ask + + 1 01|work 1|tick 1|call zz zz 01|call zz zz|deep zz zz 01|deep zz zz|close|stats|save|load", "|")
	for _, ahead := range []string{"", "new", "check", "add ?\nopen", "open\nsave\nnew"} {
		p := newPair()
		p.lines(t, strings.Split(ahead, "\n")...)
		for _, s := range l {
			if got := p.line(t, s); got != "error 333\n" {
				t.Errorf("%q: %q: %q", ahead, s, got)
			}
		}
	}
	plays(t, "open\nload\nsave\nload", "open\nerror 333\nsaved 16 bytes\nloaded\n")
	plays(t, "open\nsave\nopen\nload", "open\nsaved 16 bytes\nopen\nloaded\n")
}

// P33.1: of the words the first one that is wrong is told.
func TestFirstWord(t *testing.T) {
	p := newPair()
	p.lines(t, "add handler a = echo caps close; route \"#\" -> a;", "open")
	for line, want := range map[string]int{
		"shown zz": 221, "shown a,": 221,
		"who zz close": 221, "who zz zz": 221, "who a zz": 84, "who a Close": 84, "who a closes": 84, "who a 1": 84, "who close a": 221,
		"call zz close": 221, "call zz zz": 221, "call zz zz 01": 221, "call a zz": 84, "call a zz 01": 84, "call a zz 5": 84, "call a close 01": 14, "call a close  ": 14, "call a close x": 14,
		"deep zz close": 221, "deep zz zz 01": 221, "deep a zz 01": 84, "deep a close 01": 14,
		"explain + 5": 30, "explain + 01": 30, "explain x 01": 14, "explain a/# 5": 30, "explain x\x00 5": 30,
		"publish + 5": 30, "publish + 01": 30, "publish x 01": 14, "publish x 5 6": 14, "publish x 5\x00": 14,
		"ask + r 1 5": 30, "ask + # 1 01": 30, "ask x # 1 5": 30, "ask x # 1 01": 30, "ask x r 1 01": 14, "ask x r 1 1 5": 14,
	} {
		if got := p.line(t, line); got != fmt.Sprintf("error %d\n", want) {
			t.Errorf("%q: %q", line, got)
		}
	}
	if got := p.line(t, "publish x 5"); got != "published 1\nqueued 1 a\n" {
		t.Error("what was refused was done", got)
	}
}

// P33.1, ErrLine: of lines, whatever stands in them, ahead of all else.
func TestLongLines(t *testing.T) {
	for _, n := range []int{65535, 65536, 65537, 70000} {
		p := newPair()
		p.lines(t, "add handler a = echo; route \"#\" -> a;", "open")
		for _, c := range []struct{ head, fill, want string }{
			{"", " ", ""},
			{"\t", "\t", ""},
			{"new", " ", "new\n"},
			{"bogus", "x", "error 331\n"},
			{"", "\xff", "error 331\n"},
			{"work ", "1", "error 332\n"},
			{"open", " ", "open\n"},
			{"stats", "\t", noCounts("a")},
			{"publish ", "x", "error 332\n"},
			{"explain x ", " ", "error 14\n"},
			{"publish x #", "1", "error 14\n"},
			{"shown ", "a", "error 221\n"},
		} {
			if c.head == "new" {
				p.d.Line("new")
				p.m.line("new")
				p.lines(t, "add handler a = echo; route \"#\" -> a;", "open")
			}
			line := c.head + strings.Repeat(c.fill, n-len(c.head))
			want := c.want
			if n > 65536 {
				want = "error 330\n"
			}
			if got := p.line(t, line); got != want {
				t.Errorf("%d: %.20q: %.80q", n, line, got)
			}
			if c.head == "new" {
				p.lines(t, "add handler a = echo; route \"#\" -> a;", "open")
			}
		}
	}
	plays(t, "new"+strings.Repeat(" ", 65534)+"\nnew", "error 330\nnew\n")
}

// P33.1, ErrLine: of texts, each byte 10 counting; a text that may be just so long is read, and what is refused leaves it as it is.
func TestLongTexts(t *testing.T) {
	p := newPair()
	p.line(t, "add "+strings.Repeat("#", 65531))
	for _, c := range []struct {
		line, want string
	}{
		{"add 1234", "error 330\n"},
		{"add " + strings.Repeat("x", 60000), "error 330\n"},
		{"add 12", ""},
		{"add 1", "error 330\n"},
		{"add ", ""},
		{"add", "error 330\n"},
		{"add ", "error 330\n"},
		{"check", "fault 2:1 error 70\n"},
		{"text", strings.Repeat("#", 65531) + "\n12\n\n"},
		{"new", "new\n"},
		{"add", ""},
		{"text", "\n"},
	} {
		if got := p.line(t, c.line); got != c.want {
			t.Errorf("%.20q: %.80q", c.line, got)
		}
	}
	p.line(t, "new")
	p.lines(t, "add "+strings.Repeat("#", 60000), "add"+strings.Repeat(" ", 5535))
	if got := p.line(t, "check"); got != "ok: 0 handlers, 0 routes\n" || len(p.d.Line("text")) != 65536 {
		t.Error(got)
	}
	if got := p.line(t, "add"); got != "error 330\n" {
		t.Error(got)
	}
}

// P33.1, 0.6: what is refused changes nothing: two desks of which one is told such lines too go the same way.
func TestRefusedChangesNothing(t *testing.T) {
	r := newRandom(2)
	for range 300 {
		d, twin := New(), New()
		for _, s := range opening(r) {
			d.Line(s)
			twin.Line(s)
		}
		refusals := 0
		for range 60 {
			s := anyLine(r)
			got := d.Line(s)
			if strings.HasPrefix(got, "error ") || strings.HasPrefix(got, "fault ") {
				refusals++
				continue
			}
			if want := twin.Line(s); got != want {
				t.Fatalf("%q behind %d refusals: %q, not %q", s, refusals, got, want)
			}
		}
		for _, s := range []string{"text", "print", "stats", "work 9", "save", "close", "load", "work 9"} {
			if got, want := d.Line(s), twin.Line(s); got != want {
				t.Fatalf("%q behind %d refusals: %q, not %q", s, refusals, got, want)
			}
		}
	}
}

// Faults are told of the text, line and column, as they are found first.
func TestFaults(t *testing.T) {
	for text, want := range map[string]string{
		"add \"":                             "fault 1:1 error 65\n",
		"add\nadd /*\nadd":                   "fault 2:1 error 62\n",
		"add handler a = echo 3;":            "fault 1:13 error 82\n",
		"add handler\nadd a\nadd = echo":     "fault 4:1 error 70\n",
		"add route \"a+\" -> a;":             "fault 1:7 error 31\n",
		"add route \"a\" when foo -> a;":     "fault 1:16 error 72\n",
		"add handler a = echo caps batch;":   "fault 1:13 error 84\n",
		"add \tx":                            "fault 1:2 error 70\n",
		"add handler a = echo;\nadd  \u00e9": "fault 2:2 error 61\n",
	} {
		plays(t, text+"\ncheck\nprint\nopen\nwork 1", strings.Repeat(want, 3)+"error 333\n")
	}
	if api.DeskMost != 10000 || api.MaxSource != 65536 {
		t.Error("limits")
	}
}
