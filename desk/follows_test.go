package desk

import (
	"strings"
	"testing"

	"conduit/check"
)

// P33.1, P33.3: on random lines, wrong ones among them, all is as the chapter and the layers' functions say.
func TestAsSaid(t *testing.T) {
	r := newRandom(1)
	words := map[string]int{}
	for range 1500 {
		p := newPair()
		p.lines(t, opening(r)...)
		for range 80 {
			s := anyLine(r)
			for line := range strings.Lines(p.line(t, s)) {
				words[firstWord.FindString(strings.TrimSuffix(line, "\n"))]++
			}
		}
	}
	// All that can be told is told often enough; late are no messages of a desk, which are of use for ever.
	for _, w := range strings.Fields("new open ok: handler route fault error none nothing not level loaded saved published nobody queued refused dropped done hops answer expired called closed 0 1 2 3 4 5 6") {
		if words[w] < 3 {
			t.Errorf("%s: %d", w, words[w])
		}
	}
}

// P33.2: a text's answers are its lines' answers.
func TestPlayIsLines(t *testing.T) {
	r := newRandom(3)
	for range 300 {
		l := opening(r)
		for range 30 {
			l = append(l, strings.ReplaceAll(anyLine(r), "\n", " "))
		}
		if got, want := Play(strings.Join(l, "\n")), newPair().lines(t, l...); got != want {
			t.Fatalf("%q: %q, not %q", l, got, want)
		}
	}
}

// P33.4: two desks have nothing in common: whatever is done on one, and whenever, the other one goes as if it were alone.
func TestApart(t *testing.T) {
	r := newRandom(4)
	for range 200 {
		pairs := []pair{newPair(), newPair(), newPair()}
		for _, p := range pairs {
			p.lines(t, opening(r)...)
		}
		for range 100 {
			pick(r, pairs...).line(t, anyLine(r))
		}
	}
}

// stays tells of a line whether it leaves the plan and the snapshot as they are.
func stays(line string) bool {
	switch firstWord.FindString(line) {
	case "save", "new", "open":
		return false
	}
	return true
}

// P33.4: saved, then anything but save, new and open, then loaded, the bus is as it was: what is done with it tells what it tells of one with which nothing was done meanwhile.
func TestSavedAndLoaded(t *testing.T) {
	r := newRandom(5)
	for range 300 {
		d, twin := New(), New()
		ahead := opening(r)
		for range 20 {
			if s := soundLine(r); stays(s) {
				ahead = append(ahead, s)
			}
		}
		for _, s := range append(ahead, "save") {
			d.Line(s)
			twin.Line(s)
		}
		for range 30 {
			if s := anyLine(r); stays(s) {
				d.Line(s)
			}
		}
		if got := d.Line("load"); got != "loaded\n" {
			t.Fatal(got)
		}
		// Stats hang on all events since, those meanwhile too; they and the text are all that is another one.
		for range 40 {
			s := soundLine(r)
			switch firstWord.FindString(s) {
			case "stats", "text", "check", "print", "add", "open":
				continue
			}
			if got, want := d.Line(s), twin.Line(s); got != want {
				t.Fatalf("%q: %q, not %q", s, got, want)
			}
		}
	}
}

// What is printed may be typed in again: the plan is the same, and so is its form.
func TestPrintedAgain(t *testing.T) {
	r := newRandom(6)
	for range 200 {
		d := New()
		for _, s := range opening(r) {
			d.Line(s)
		}
		text := d.Line("print")
		if p, f := check.Load([]byte(text)); f.Err == 0 && check.Write(p) == text && text != "" {
			again := New()
			for line := range strings.Lines(text) {
				again.Line("add " + strings.TrimSuffix(line, "\n"))
			}
			if got := again.Line("print"); got != text || again.Line("text") != text {
				t.Fatalf("%q, not %q", got, text)
			}
		} else if !strings.HasPrefix(text, "fault ") {
			t.Fatalf("%q", text)
		}
	}
}
