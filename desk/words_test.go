package desk

import (
	"fmt"
	"strings"
	"testing"

	"conduit/api"
)

// P33.1: each word's answer, and what it does.
func TestWords(t *testing.T) {
	const two = "add handler a = count caps save, load; handler b = echo caps close after a;\nadd route \"x\" -> a; route \"x/#\" when text -> b; route \"#\" else -> b;\nopen\n"
	for _, c := range []struct{ name, lines, want string }{
		{"text, of nothing", "text", ""},
		{"text, as it was typed in", "add  handler\t a\nadd\nadd \nadd\tx \ntext", " handler\t a\n\n\nx \n"},
		{"text, blanks ahead of the word", " \tadd  x\ntext", " x\n"},
		{"text, bytes of any sort", "add \xff\x00\r\ntext", "\xff\x00\r\n"},
		{"check, of nothing", "check", "ok: 0 handlers, 0 routes\n"},
		{"check", two + "check", "open\nok: 2 handlers, 3 routes\n"},
		{"check, of no sound text", "add # a\nadd handler a = echo;\nadd\troute \"x\" -> b;\ncheck", "fault 3:14 error 81\n"},
		{"check, a text that ends too soon", "add handler a =\ncheck", "fault 2:1 error 70\n"},
		{"print, of nothing", "print", ""},
		{"print", two + "print", "open\nhandler a = count caps save, load inbox 64 drop new;\nhandler b = echo caps close inbox 64 drop new after a;\nroute \"x\" -> a;\nroute \"x/#\" when text -> b;\nroute \"#\" else -> b;\n"},
		{"print and check open nothing", "check\nprint\nwork 1", "ok: 0 handlers, 0 routes\nerror 333\n"},
		{"open, of nothing", "open\npublish x 5\nstats\nlint\nwork 9\ntick 9\nclose\nexplain x 5", "open\npublished 1\nnobody 1\nnone\n"},
		{"open, as it is then", two + "add handler c = mute; route \"y\" -> c;\npublish y 5\nshown c\ncheck", "open\npublished 1\nqueued 1 b\nerror 221\nok: 3 handlers, 4 routes\n"},
		{"open, once more", two + "publish x 5\nwork 9\nopen\nstats\npublish x 5\nwork 9", "open\npublished 1\nqueued 1 a\ndone 1 a ok 1\nopen\n" + noCounts("a", "b") + "published 1\nqueued 1 a\ndone 1 a ok 1\n"},
		{"open, refused", two + "publish x 5\nadd ?\nopen\nwork 9\nstats", "open\npublished 1\nqueued 1 a\nfault 3:1 error 61\ndone 1 a ok 1\na queued 1 refused 0 dropped 0 late 0 done 1 good 1 panics 0 wait 0 longest 0\n" + noCounts("b")},
		{"new", two + "save\nnew\ntext\nload\nopen\nload\nstats", "open\nsaved S bytes\nnew\nerror 333\nopen\nerror 333\n"},
		{"new, of nothing", "new\nnew", "new\nnew\n"},
		{"lint", "add handler a = echo caps close with hide with filter when int; handler b = echo after a; route \"x/#\" when text -> a; route \"x\" when text & int -> b;\nopen\nlint", "open\n1 1 0 0\n2 1 0 0\n3 1 0 1\n4 0 0 1\n6 0 2 0\n"},
		{"lint, of few", two + "lint", "open\n3 1 0 1\n"},
		{"shown", two + "shown a\nshown b", "open\nsave load\nclose\n"},
		{"who", "add handler a = echo caps close with give caps name with buffer 3 0 with open through;\nopen\nwho a close\nwho a name\nwho a flush\nwho a batch\nwho a open\nwho a ack", "open\nlevel 0\nlevel 1\nlevel 2\nlevel 2\nlevel 3\nnot shown\n"},
		{"explain", two + "explain x \"t\"\nexplain x/y \"t\"\nexplain x/y 5\nexplain q 5\nexplain $q 5\nstats", "open\n0 takes\n1 takes\n2 spare\n0 topic\n1 takes\n2 spare\n0 topic\n1 type\n2 else\n0 topic\n1 topic\n2 else\n0 topic\n1 topic\n2 topic\n" + noCounts("a", "b")},
		{"publish, a value with blanks", two + "publish x/y \"a  b\"\npublish x (1, [2, 3])\nwork 9", "open\npublished 1\nqueued 1 b\npublished 2\nqueued 2 a\ndone 2 a ok 1\ndone 1 b ok \"a  b\"\n"},
		{"ask, for ever", two + "ask x/y r 0 \"q\"\ntick 10000\nwork 9", "open\npublished 1\nqueued 1 b\ndone 1 b ok \"q\"\npublished 2\nanswer 2 1 ok \"q\"\n"},
		{"ask, an answer to nobody", "add handler a = echo; route \"x\" -> a;\nopen\nask y r 2 5\ntick 2\ntick 1", "open\npublished 1\nnobody 1\nexpired 1\n"},
		{"work, of none", two + "publish x 5\nwork 0\nwork 1", "open\npublished 1\nqueued 1 a\ndone 1 a ok 1\n"},
		{"tick", "add handler a = echo with buffer 3 4; route \"x\" -> a;\nopen\npublish x 5\nwork 1\ntick 3\ntick 0\ntick 1", "open\npublished 1\nqueued 1 a\ndone 1 a ok 5\n"},
		{"call, with a value and without", two + "call a load ([5, 0, 0, false], (nil, []))\npublish x 1\nwork 1\ncall a load\ncall a load nil\ncall a save\ncall a save ", "open\ncalled a ok\npublished 1\nqueued 1 a\ndone 1 a ok 6\ncalled a panic 2 0\ncalled a panic 2 0\ncalled a ok ([6, 0, 0, false], (nil, []))\ncalled a ok ([6, 0, 0, false], (nil, []))\n"},
		{"deep", "add handler a = echo caps ping with open hide;\nopen\ncall a ping\ndeep a ping\ndeep a ping nil", "open\ncalled a error 201\ncalled a ok true\ncalled a ok true\n"},
		{"close", two + "publish x/y \"t\"\npublish x 5\nclose\nclose\npublish x 5\nwork 9", "open\npublished 1\nqueued 1 b\npublished 2\nqueued 2 a\ndropped 2 a\nclosed a ok\ndropped 1 b\nclosed b ok\npublished 3\nrefused 3 a error 200\n"},
		{"stats", two + "publish x 5\ntick 3\nwork 9\npublish x 5\ntick 4\nwork 9\nstats", "open\npublished 1\nqueued 1 a\ndone 1 a ok 1\npublished 2\nqueued 2 a\ndone 2 a ok 2\na queued 2 refused 0 dropped 0 late 0 done 2 good 2 panics 0 wait 7 longest 4\n" + noCounts("b")},
		{"save and load", two + "publish x 5\nsave\nwork 9\nload\nstats\nwork 9\nload\nwork 9\nstats", "open\npublished 1\nqueued 1 a\nsaved S bytes\ndone 1 a ok 1\nloaded\na queued 1 refused 0 dropped 0 late 0 done 1 good 1 panics 0 wait 0 longest 0\n" + noCounts("b") + "done 1 a ok 1\nloaded\ndone 1 a ok 1\na queued 1 refused 0 dropped 0 late 0 done 3 good 3 panics 0 wait 0 longest 0\n" + noCounts("b")},
		{"save, once more", two + "save\npublish x 5\nsave\nwork 9\nload\nwork 9", "open\nsaved S bytes\npublished 1\nqueued 1 a\nsaved S bytes\ndone 1 a ok 1\nloaded\ndone 1 a ok 1\n"},
		{"the snapshot stays, the plan opened again", two + "publish x 5\nsave\nopen\nwork 9\nload\nwork 9\nstats", "open\npublished 1\nqueued 1 a\nsaved S bytes\nopen\nloaded\ndone 1 a ok 1\na queued 0 refused 0 dropped 0 late 0 done 1 good 1 panics 0 wait 0 longest 0\n" + noCounts("b")},
		{"load, of another plan", two + "publish x 5\nsave\nadd handler c = mute;\nopen\npublish x 5\nload\nwork 9", "open\npublished 1\nqueued 1 a\nsaved S bytes\nopen\npublished 1\nqueued 1 a\nerror 280\ndone 1 a ok 1\n"},
	} {
		t.Run(c.name, func(t *testing.T) {
			want := c.want
			for _, line := range strings.Split(Play(c.lines), "\n") {
				if strings.HasPrefix(line, "saved ") {
					want = strings.Replace(want, "saved S bytes", line, 1)
				}
			}
			plays(t, c.lines, want)
		})
	}
}

// noCounts is what stats tells of handlers to whom nothing has happened.
func noCounts(names ...string) string {
	s := ""
	for _, n := range names {
		s += n + " queued 0 refused 0 dropped 0 late 0 done 0 good 0 panics 0 wait 0 longest 0\n"
	}
	return s
}

// P33.1, "saved B bytes": of a plan without handlers the chapter on snapshots gives its 16 bytes.
func TestSavedBytes(t *testing.T) {
	plays(t, "open\nsave", "open\nsaved 16 bytes\n")
}

// P33.1: lines are cut at each blank, the rest stands behind one byte more; what is no blank is a word's.
func TestBlanks(t *testing.T) {
	setup := "add handler a = echo caps close; route \"#\" -> a;\nopen\n"
	for lines, want := range map[string]string{
		"":                         "",
		" ":                        "",
		"\t \t":                    "",
		"\topen ":                  "open\n",
		"work\t1":                  "",
		" work  1 \t":              "",
		"publish  x\t5":            "published 1\nqueued 1 a\n",
		"publish x\t\"\\x09\"":     "published 1\nqueued 1 a\n",
		"publish x  5":             "error 14\n",
		"publish x \t5":            "error 14\n",
		"publish x 5 ":             "error 14\n",
		"publish x  ":              "error 14\n",
		"publish x ":               "error 332\n",
		"publish  5":               "error 332\n",
		"call a close ":            "called a ok\n",
		"call a close  ":           "error 14\n",
		"call a close\t5":          "called a ok\n",
		"explain x nil\t":          "error 14\n",
		"open\r":                   "error 331\n",
		"\u00a0":                   "error 331\n",
		"\v":                       "error 331\n",
		"\x00":                     "error 331\n",
		"\xff\xfe":                 "error 331\n",
		"publish \xff 5":           "error 30\n",
		"publish a\u00a0b 5":       "published 1\nqueued 1 a\n",
		"publish x\u00a0 5":        "published 1\nqueued 1 a\n",
		"publish \u2003 5":         "published 1\nqueued 1 a\n",
		"ask x\ty  2 5":            "published 1\nqueued 1 a\n",
		"ask x y 2  5":             "error 14\n",
		"work 1\u2003":             "error 332\n",
		"shown \xc2\xa0":           "error 221\n",
		"who a close\xa0":          "error 84\n",
		"call a close\xa0 5":       "error 84\n",
		"publish x\x85 5":          "error 30\n",
		"deep\ta\tclose\t(1, nil)": "called a ok\n",
	} {
		plays(t, setup+lines, "open\n"+want)
	}
}

// P33.1: a line that Line is given may have a byte 10, which is no blank.
func TestLineFeedInLine(t *testing.T) {
	p := newPair()
	p.lines(t, "add handler a = echo; # \n route \"x\" -> a;", "open")
	for line, want := range map[string]string{
		"text":            "handler a = echo; # \n route \"x\" -> a;\n",
		"check":           "ok: 1 handlers, 1 routes\n",
		"work 1\n":        "error 332\n",
		"\n":              "error 331\n",
		"work\n1":         "error 331\n",
		"publish x nil\n": "error 14\n",
		"explain x\n 5":   "0 topic\n",
		"explain x\n\n 5": "0 topic\n",
	} {
		if got := p.line(t, line); got != want {
			t.Errorf("%q: %q", line, got)
		}
	}
}

// P33.1: H is a name in the plan that is open, whatever the name is.
func TestHandlers(t *testing.T) {
	d := newPair()
	for i := range api.MaxHandlers {
		d.line(t, fmt.Sprintf("add handler %s = count with map:list;", strings.Repeat("_", 1+i%7)+fmt.Sprint("h", i)))
	}
	d.line(t, "add handler new = mute;")
	if got := d.line(t, "open"); got != "fault 65:1 error 83\n" {
		t.Error(got)
	}
	d.lines(t, "new", "add handler new = echo caps close; handler save = mute; handler a = count; route \"new\" -> save; route \"new\" -> new;", "open")
	for line, want := range map[string]string{
		"shown new": "close\n", "who new close": "level 0\n", "shown nobody": "error 221\n", "shown NEW": "error 221\n", "shown -": "error 221\n", "shown 0": "error 221\n", "call new close": "called new ok\n", "publish new 5": "published 1\nqueued 1 save\nqueued 1 new\n",
	} {
		if got := d.line(t, line); got != want {
			t.Errorf("%q: %q", line, got)
		}
	}
}

// P33.2: lines are cut at each byte 10 and at nothing else; what stands behind the last one is a line, too.
func TestPlay(t *testing.T) {
	for text, want := range map[string]string{
		"":                      "",
		"\n":                    "",
		"\n\n\n":                "",
		"new":                   "new\n",
		"new\n":                 "new\n",
		"\nnew\n\nnew":          "new\nnew\n",
		"new\r\nnew":            "error 331\nnew\n",
		"add x\ntext":           "x\n",
		"add x\n\n add y\ntext": "x\ny\n",
		"text\nadd x":           "",
	} {
		plays(t, text, want)
	}
}

// P33.2: each Play has a desk of its own.
func TestPlayAnew(t *testing.T) {
	for range 3 {
		if got := Play("text\nload\nwork 1\nadd x\nopen\ntext\n"); got != "error 333\nerror 333\nfault 1:1 error 70\nx\n" {
			t.Error(got)
		}
	}
}
