package desk

import "testing"

const counting = "add handler a = count; route \"x\" -> a;\nopen\n"

// The chapter's example 1.
func TestExampleCounted(t *testing.T) {
	plays(t, counting+"publish x 5\nwork 9\nwork 1", "open\npublished 1\nqueued 1 a\ndone 1 a ok 1\n")
}

// The chapter's example 2.
func TestExampleLookedAfter(t *testing.T) {
	p := newPair()
	p.lines(t, "add handler a = count; route \"x\" -> a;", "open", "publish x 5", "work 9", "work 1")
	for _, c := range []struct{ line, want string }{
		{"publish y nil", "published 2\nnobody 2\n"},
		{"shown a", "nothing\n"},
		{"who a flush", "not shown\n"},
		{"call a save", "called a error 201\n"},
		{"explain x 5", "0 takes\n"},
		{"stats", "a queued 1 refused 0 dropped 0 late 0 done 1 good 1 panics 0 wait 0 longest 0\n"},
	} {
		if got := p.line(t, c.line); got != c.want {
			t.Errorf("%q: %q", c.line, got)
		}
	}
}

// The chapter's example 3.
func TestExampleRefused(t *testing.T) {
	plays(t, "bogus\nwork 1\nwork x", "error 331\nerror 333\nerror 332\n")
	plays(t, "add handler a = foo;\nopen", "fault 1:13 error 81\n")
}

// DOC.md's examples of the whole, as far as they are lines of a desk; by their numbers there.
func TestExamplesOfTheWhole(t *testing.T) {
	for _, c := range []struct {
		number      int
		lines, want string
	}{
		{1, counting + "publish x 5\nwork 9\npublish y 5", "open\npublished 1\nqueued 1 a\ndone 1 a ok 1\npublished 2\nnobody 2\n"},
		{2, "add handler a = unbox; route \"x\" -> a;\nopen\npublish x &nil\npublish x 5\npublish x &2(\"t\")\nwork 9\npublish x &nil\nwork 1",
			"open\npublished 1\nqueued 1 a\npublished 2\nqueued 2 a\npublished 3\nqueued 3 a\ndone 1 a panic 3 0\ndone 2 a panic 2 3\ndone 3 a ok \"t\"\npublished 4\nqueued 4 a\ndone 4 a panic 3 0\n"},
		{3, "add handler a = store caps flush, save with mask caps save;\nopen\nshown a\nwho a flush\ndeep a flush\ncall a flush", "open\nsave\nnot shown\ncalled a error 201\ncalled a error 201\n"},
		{3, "add handler a = store caps flush, save with open mask caps save;\nopen\nshown a\nwho a flush\ndeep a flush\ncall a flush", "open\nsave open\nnot shown\ncalled a ok 0\ncalled a error 201\n"},
		{4, "add handler a = echo with buffer 3 0; route \"x\" -> a;\nopen\nshown a\npublish x 1\npublish x 2\nwork 9\npublish x 3\nwork 9",
			"open\nflush batch\npublished 1\nqueued 1 a\npublished 2\nqueued 2 a\npublished 3\nqueued 3 a\ndone 1 a ok 1\ndone 2 a ok 2\ndone 3 a ok 3\n"},
		{4, "add handler a = echo with buffer 3 0; route \"x\" -> a;\nopen\npublish x 1\npublish x 2\nwork 9\nclose", "open\npublished 1\nqueued 1 a\npublished 2\nqueued 2 a\ndone 1 a ok 1\ndone 2 a ok 2\nclosed a ok\n"},
		{5, "add handler a = mute; handler b = mute;\nadd route \"a/#\" when text -> a; route \"#\" else -> b;\nopen\npublish a/1 \"s\"\npublish a/1 5\npublish $sys 5",
			"open\npublished 1\nqueued 1 a\npublished 2\nqueued 2 b\npublished 3\nnobody 3\n"},
		{6, "add handler a = echo; route \"x\" -> a;\nopen\nask x r 3 5\nwork 1", "open\npublished 1\nqueued 1 a\ndone 1 a ok 5\npublished 2\nanswer 2 1 ok 5\n"},
		{6, "add handler a = echo; route \"x\" -> a;\nopen\nask x r 3 5\ntick 4\nwork 1", "open\npublished 1\nqueued 1 a\nexpired 1\ndone 1 a ok 5\npublished 2\nnobody 2\n"},
		{7, "add handler a = fail 3 with retry 4 with breaker 2 10; route \"x\" -> a;\nopen\npublish x 1\npublish x 2\npublish x 3\nwork 9\ntick 10\npublish x 4\nwork 9",
			"open\npublished 1\nqueued 1 a\npublished 2\nqueued 2 a\npublished 3\nqueued 3 a\ndone 1 a error 100 code 3\ndone 2 a error 100 code 3\ndone 3 a error 140\npublished 4\nqueued 4 a\ndone 4 a error 100 code 3\n"},
		{8, "add handler b = echo caps close after a; handler a = echo caps close;\nopen\nclose\nclose", "open\nclosed a ok\nclosed b ok\n"},
		{8, "add handler b = echo caps close after a; handler a = echo caps close after b;\nadd route \"x\" -> a; route \"x\" -> b;\nopen\nlint\nclose", "open\n5 0 0 0\n5 1 0 0\nclosed b ok\nclosed a ok\n"},
		{10, "add handler a = sum; route \"x\" -> a;\nopen\npublish x 1\npublish x \"x\"\npublish x f3ff0000000000000\npublish x 2\nwork 9",
			"open\npublished 1\nqueued 1 a\npublished 2\nqueued 2 a\npublished 3\nqueued 3 a\npublished 4\nqueued 4 a\ndone 1 a ok 1\ndone 2 a error 100 code 2\ndone 3 a panic 2 3\ndone 4 a ok 3\n"},
	} {
		t.Log(c.number)
		plays(t, c.lines, c.want)
	}
}
