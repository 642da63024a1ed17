package desk

import (
	"fmt"
	"math/rand/v2"
	"regexp"
	"strconv"
	"strings"
	"testing"

	"conduit/api"
	"conduit/bus"
	"conduit/caps"
	"conduit/check"
	"conduit/datum"
	"conduit/lint"
	"conduit/route"
	"conduit/scan"
	"conduit/shown"
	"conduit/snap"
	"conduit/stats"
	"conduit/topic"
)

func newRandom(seed uint64) *rand.Rand { return rand.New(rand.NewPCG(seed, 33)) }

func pick[T any](r *rand.Rand, l ...T) T { return l[r.IntN(len(l))] }

// forms is how each word's lines are, by its operands: in the parentheses stands what is taken.
func forms() map[string]*regexp.Regexp {
	const (
		word   = `[ \t]+([^ \t]+)`
		end    = `[ \t]*$`
		value  = `[ \t](.+)$`
		valueV = `(?:[ \t](.*))?$`
	)
	l := map[string]string{"add": valueV, "shown": word + end, "who": word + word + end, "explain": word + value, "publish": word + value, "ask": word + word + word + value, "work": word + end, "tick": word + end, "call": word + word + valueV, "deep": word + word + valueV}
	for _, w := range []string{"new", "text", "check", "print", "open", "lint", "close", "stats", "save", "load"} {
		l[w] = end
	}
	out := map[string]*regexp.Regexp{}
	for w, form := range l {
		out[w] = regexp.MustCompile(`(?s)^[ \t]*` + w + form)
	}
	return out
}

var (
	lineForms = forms()
	firstWord = regexp.MustCompile(`[^ \t]+`)
	digits    = regexp.MustCompile(`^(0|[1-9][0-9]{0,3}|10000)$`)
)

// model is the chapter's words, said once more: its lines by their forms, its answers by what the layers' functions answer.
type model struct {
	text   string
	open   bool
	plan   api.Plan
	state  api.Bus
	events []api.Event
	saved  bool
	bytes  []byte
}

func errorLine(n int) string { return fmt.Sprintf("error %d\n", n) }

func (m *model) line(s string) string {
	if len(s) > 65536 {
		return errorLine(330)
	}
	word := firstWord.FindString(s)
	if word == "" {
		return ""
	}
	form := lineForms[word]
	if form == nil {
		return errorLine(331)
	}
	parts := form.FindStringSubmatch(s)
	if parts == nil {
		return errorLine(332)
	}
	at := map[string]int{"ask": 3, "work": 1, "tick": 1}[word]
	if at > 0 && !digits.MatchString(parts[at]) {
		return errorLine(332)
	}
	switch word {
	case "new", "add", "text", "check", "print", "open":
		return m.typed(word, parts[1:])
	}
	if !m.open || word == "load" && !m.saved {
		return errorLine(333)
	}
	if fault := m.fault(word, parts[1:]); fault != 0 {
		return errorLine(fault)
	}
	return m.asked(word, parts[1:])
}

func (m *model) typed(word string, parts []string) string {
	switch word {
	case "new":
		*m = model{}
		return "new\n"
	case "add":
		if len(m.text)+len(parts[0]) >= 65536 {
			return errorLine(330)
		}
		m.text += parts[0] + "\n"
		return ""
	case "text":
		return m.text
	}
	p, fault := check.Load([]byte(m.text))
	if fault.Err != api.OK {
		l, c := scan.Line([]byte(m.text), fault.Pos)
		return fmt.Sprintf("fault %d:%d error %d\n", l, c, fault.Err)
	}
	switch word {
	case "check":
		return fmt.Sprintf("ok: %d handlers, %d routes\n", len(p.Handlers), len(p.Routes))
	case "print":
		return check.Write(p)
	}
	m.open, m.plan, m.state, m.events = true, p, bus.New(p), nil
	return "open\n"
}

func (m *model) place(name string) int {
	for i, h := range m.plan.Handlers {
		if h.Name == name {
			return i
		}
	}
	return -1
}

// fault is that of the words, in their order.
func (m *model) fault(word string, parts []string) int {
	for i, letter := range map[string]string{"shown": "H", "who": "HC", "explain": "TV", "publish": "TV", "ask": "TTNV", "call": "HCv", "deep": "HCv"}[word] {
		_, none := datum.Parse(parts[i])
		switch {
		case letter == 'H' && m.place(parts[i]) < 0:
			return 221
		case letter == 'C' && caps.Number(parts[i]) < 0:
			return 84
		case letter == 'T' && !topic.Name(parts[i]):
			return 30
		case (letter == 'V' || letter == 'v' && parts[i] != "") && none != api.OK:
			return 14
		}
	}
	return 0
}

func value(s string) api.Datum {
	d, _ := datum.Parse(s)
	return d
}

func (m *model) asked(word string, parts []string) string {
	switch word {
	case "lint":
		s := ""
		for _, f := range lint.Look(m.plan) {
			s += fmt.Sprintf("%d %d %d %d\n", f.What, f.At, f.Other, f.Cap)
		}
		if s == "" {
			return "none\n"
		}
		return s
	case "shown":
		if c := shown.Shown(m.plan.Handlers[m.place(parts[0])].Chain); c != 0 {
			return caps.Text(c) + "\n"
		}
		return "nothing\n"
	case "who":
		if l := shown.Who(m.plan.Handlers[m.place(parts[0])].Chain, caps.Number(parts[1])); l >= 0 {
			return fmt.Sprintf("level %d\n", l)
		}
		return "not shown\n"
	case "explain":
		return route.Explain(m.plan.Routes, api.Msg{Topic: parts[0], Body: value(parts[1])})
	case "stats":
		return stats.Text(m.plan, stats.Count(len(m.plan.Handlers), m.events))
	case "save":
		m.saved, m.bytes = true, snap.Save(m.plan, m.state)
		return fmt.Sprintf("saved %d bytes\n", len(m.bytes))
	case "load":
		st, e := snap.Load(m.plan, m.bytes)
		if e != api.OK {
			return errorLine(int(e))
		}
		m.state = st
		return "loaded\n"
	}
	return m.step(word, parts)
}

func (m *model) step(word string, parts []string) string {
	var s api.Step
	switch word {
	case "publish":
		s = api.Step{Kind: api.StPublish, Msg: api.Msg{Topic: parts[0], Body: value(parts[1])}}
	case "ask":
		s = api.Step{Kind: api.StAsk, Msg: api.Msg{Topic: parts[0], Reply: parts[1], Body: value(parts[3])}}
		s.N, _ = strconv.ParseInt(parts[2], 10, 64)
	case "work", "tick":
		s.Kind = map[string]int{"work": api.StWork, "tick": api.StTick}[word]
		s.N, _ = strconv.ParseInt(parts[0], 10, 64)
	case "call", "deep":
		s = api.Step{Kind: api.StCall, Handler: m.place(parts[0]), Cap: caps.Number(parts[1]), Arg: value(parts[2]), Deep: word == "deep"}
	case "close":
		s.Kind = api.StClose
	}
	if !bus.Step(s) {
		panic(fmt.Sprint("no fit step: ", s))
	}
	var events []api.Event
	m.state, events = bus.Do(m.plan, m.state, s)
	m.events = append(m.events, events...)
	out := ""
	for _, e := range events {
		out += m.event(e) + "\n"
	}
	return out
}

// event is an event's line, of a form in which I is its Id, H the handler, C the Corr, R the result.
func (m *model) event(e api.Event) string {
	name := "-"
	if e.Handler >= 0 {
		name = m.plan.Handlers[e.Handler].Name
	}
	form := map[int]string{
		api.EvPublished: "published I", api.EvNobody: "nobody I", api.EvQueued: "queued I H", api.EvRefused: "refused I H R", api.EvDropped: "dropped I H", api.EvLate: "late I H",
		api.EvDone: "done I H R", api.EvHops: "hops I H", api.EvAnswer: "answer I C R", api.EvExpired: "expired C", api.EvCalled: "called H R", api.EvClosed: "closed H R",
	}[e.Kind]
	words := strings.Fields(form)
	for i, w := range words {
		words[i] = map[string]string{"I": fmt.Sprint(e.Id), "H": name, "C": fmt.Sprint(e.Corr), "R": chapterResult(e.Result)}[w]
		if words[i] == "" {
			words[i] = w
		}
	}
	return strings.Join(words, " ")
}

func chapterResult(r api.Result) string {
	form := map[api.Errno]string{api.OK: "ok", api.ErrHandler: "error 100 code C", api.ErrPanic: "panic K N"}[r.Err]
	switch {
	case form == "":
		form = fmt.Sprintf("error %d", r.Err)
	case form == "ok" && r.Has:
		form = "ok " + datum.Print(r.Body)
	case form != "ok":
		form = strings.NewReplacer("C", fmt.Sprint(r.Code), "K", fmt.Sprint(r.Panic.Kind), "N", fmt.Sprint(r.Panic.Num)).Replace(form)
	}
	return form
}

// pair is a desk and the chapter's words on it, held against each other line by line.
type pair struct {
	d *Desk
	m *model
}

func newPair() pair { return pair{New(), &model{}} }

func (p pair) line(t testing.TB, s string) string {
	t.Helper()
	got, want := p.d.Line(s), p.m.line(s)
	if got != want {
		t.Fatalf("%.200q: %.400q, not %.400q", s, got, want)
	}
	return got
}

func (p pair) lines(t testing.TB, l ...string) string {
	t.Helper()
	all := ""
	for _, s := range l {
		all += p.line(t, s)
	}
	return all
}

// plays tells what a text's lines come to, and that it is what the chapter says.
func plays(t testing.TB, lines, want string) {
	t.Helper()
	if got := newPair().lines(t, strings.Split(lines, "\n")...); got != want {
		t.Errorf("%q:\n%q, not\n%q", lines, got, want)
	}
	if got := Play(lines); got != want {
		t.Errorf("Play of %q:\n%q, not\n%q", lines, got, want)
	}
}

// someConfigs are handlers and routes that can be put behind each other, and such as can't.
var someConfigs = []string{
	`handler a = count caps save, load, close; route "x" -> a;`,
	`handler b = echo caps flush, batch, close with buffer 3 4 inbox 2 drop old;`,
	`handler c = fail 3 with retry 4 with breaker 2 10; route "x" -> c; route "y/#" -> c;`,
	`handler e = unbox caps ping, close with open hide; route "#" when pointer | nopointer -> e;`,
	`handler f = panic -7 inbox 1 drop none; route "y" -> f;`,
	`handler g = sum caps save, load with limit 1 3; route "x" when int | float -> g; route "r" -> g;`,
	`handler h = echo with until 3 with dedup 9; route "+/b" -> h; route "#" else -> h;`,
	`handler i = echo caps close after i; route "r" -> i;`,
	`handler j = store 2 caps flush, save, load, ping, reset with mask caps flush, save, load with give caps name; route "x/#" when !nil -> j;`,
	`handler k = none caps ack, until, name; route "r/s" -> k;`,
	`handler l = nth 2 with map:list with filter when any; handler m = mute after l; route "y" -> l; route "y" -> m;`,
	`handler n = size with filter when sized with open through; route "x" when text -> n; route "x" else -> n;`,
	`handler o = less caps save, load; route "#" -> o;`,
	`route "x" when nil & any -> a;`, `route "a+" -> a;`, `handler a = echo;`, `handler = ;`, `# nothing`, ``, `route "x`, `handler q = foo;`, "\xff",
}

var someValues = []string{"5", "nil", "-3", `"t"`, `@"n"`, "%00ff", "[]", "[1, [2]]", "(1, 2)", "([1], 2)", `!4"bad"`, "&nil", `&2("x")`, "{}", "true", "#7", "f3ff0000000000000", "f7ff8000000000001"}

var noValues = []string{"01", " 5", "5 ", "x", "(1,2)", "\t", "nil\n"}

func someName(r *rand.Rand) string {
	return pick(r, strings.Split("abcefghijklmno", "")...)
}

func someTopic(r *rand.Rand) string {
	return pick(r, "x", "x", "y", "y/z", "r", "r/s", "a/b", "$sys", "none")
}

func someCap(r *rand.Rand) string { return caps.Word(r.IntN(api.NumCaps)) }

func someValue(r *rand.Rand) string {
	if r.IntN(12) == 0 {
		return pick(r, noValues...)
	}
	return pick(r, someValues...)
}

func someNumber(r *rand.Rand) string {
	return pick(r, "0", "1", "1", "2", "3", "9", "100", "10000")
}

// soundLine is a line that is none of the wrong ones, as far as can be told without what lies open.
func soundLine(r *rand.Rand) string {
	switch r.IntN(16) {
	case 0:
		return "add " + pick(r, someConfigs...)
	case 1:
		return pick(r, "check", "print", "text", "lint", "stats", "open", "open", "save", "load", "load", "close", "new")
	case 2:
		return pick(r, "shown ", "shown\t") + someName(r)
	case 3:
		return "who " + someName(r) + " " + someCap(r)
	case 4:
		return "explain " + someTopic(r) + " " + someValue(r)
	case 5, 6, 7:
		return "work " + someNumber(r)
	case 8:
		return "tick " + pick(r, "0", "1", "2", "5", "10000")
	case 9, 10:
		return pick(r, "call ", "deep ", " \tcall  ") + someName(r) + " " + someCap(r) + pick(r, "", " ", " "+someValue(r))
	case 11, 12:
		return "ask " + someTopic(r) + " " + someTopic(r) + " " + someNumber(r) + " " + someValue(r)
	}
	return "publish " + someTopic(r) + " " + someValue(r)
}

// anyLine is one that may be wrong somewhere, too.
func anyLine(r *rand.Rand) string {
	s := soundLine(r)
	if r.IntN(4) > 0 {
		return s
	}
	words := strings.Split(s, " ")
	at := r.IntN(len(words))
	switch r.IntN(5) {
	case 0:
		words = append(words[:at:at], words[at+1:]...)
	case 1:
		words[at] = pick(r, "", "\t", "bogus", "ope", "openn", "OPEN", "open\r", "-1", "-0", "01", "+1", "10001", "99999999999999999999", "x+", "\x00", "\xff", "zz", "flush", "nil", "1_0", "0x1")
	case 2:
		words = append(words, pick(r, "", "more", "5", "\t"))
	case 3:
		words[at] += pick(r, "\t", "\n", " ", "\u00a0", "\xff")
	default:
		words = append([]string{""}, words...)
	}
	return strings.Join(words, " ")
}

// opening is lines that type in and open something.
func opening(r *rand.Rand) (l []string) {
	for _, i := range r.Perm(13)[:1+r.IntN(7)] {
		l = append(l, "add "+someConfigs[i])
	}
	return append(l, "open")
}
