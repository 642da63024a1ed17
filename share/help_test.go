package share

import (
	"fmt"
	"maps"
	"math/rand/v2"
	"regexp"
	"slices"
	"strings"
	"testing"
	"unicode/utf8"

	"conduit/api"
	"conduit/topic"
)

const (
	mostMembers = 256
	mostBytes   = 65535
)

func newRandom(seed uint64) *rand.Rand { return rand.New(rand.NewPCG(seed, 30)) }

func pick[T any](r *rand.Rand, l ...T) T { return l[r.IntN(len(l))] }

func number(n int64) api.Datum { return api.Datum{Kind: api.KInt, Int: n} }

func list(l ...api.Datum) api.Datum { return api.Datum{Kind: api.KList, List: l} }

func msg(topic string, n int64) api.Msg { return api.Msg{Topic: topic, Body: number(n)} }

func without(topic string) api.Msg { return api.Msg{Topic: topic} }

func long(level string, bytes int) string { return strings.Repeat(level, bytes/len(level)) }

var sharedForm = regexp.MustCompile("^(?s)\\$share/([^/+#\x00]+)/(.*)$")

// chapterSplit is P30.1, of the chapter's words on what is subscribed to.
func chapterSplit(s string) (string, string, bool) {
	if !strings.HasPrefix(s, "$share/") {
		if topic.Filter(s) {
			return "", s, true
		}
		return "", "", false
	}
	parts := sharedForm.FindStringSubmatch(s)
	if parts == nil || !utf8.ValidString(parts[1]) || !topic.Filter(parts[2]) {
		return "", "", false
	}
	return parts[1], parts[2], true
}

// row is members in the order in which they joined, and which of them has the turn.
type row struct {
	ids  []int
	turn int
}

// model is the chapter's words on plain lists, by what is subscribed to.
type model struct {
	rows map[string]*row
	kept []api.Msg
}

func newModel() *model { return &model{rows: map[string]*row{}} }

// join is P30.2.
func (m *model) join(text string, id int) bool {
	name, _, ok := chapterSplit(text)
	if !ok {
		return false
	}
	w := m.rows[text]
	if w == nil {
		w = &row{}
	}
	if slices.Contains(w.ids, id) || name != "" && len(w.ids) == mostMembers {
		return false
	}
	w.ids = append(w.ids, id)
	m.rows[text] = w
	return true
}

// leave is P30.2, with what P30.3 says of the turn.
func (m *model) leave(text string, id int) bool {
	w := m.rows[text]
	if w == nil {
		return false
	}
	at := slices.Index(w.ids, id)
	if at < 0 {
		return false
	}
	w.ids = slices.Delete(w.ids, at, at+1)
	if at < w.turn {
		w.turn--
	}
	if len(w.ids) == 0 {
		delete(m.rows, text)
	} else {
		w.turn %= len(w.ids)
	}
	return true
}

// send is P30.3.
func (m *model) send(name string) []int {
	if !topic.Name(name) {
		return nil
	}
	var alone, turns []int
	for _, text := range slices.Sorted(maps.Keys(m.rows)) {
		group, filter, _ := chapterSplit(text)
		if !topic.Match(filter, name) {
			continue
		}
		w := m.rows[text]
		if group == "" {
			alone = append(alone, w.ids...)
			continue
		}
		turns = append(turns, w.ids[w.turn])
		w.turn = (w.turn + 1) % len(w.ids)
	}
	slices.Sort(alone)
	return slices.Concat(slices.Compact(alone), turns)
}

// keep is P30.4.
func (m *model) keep(in api.Msg) bool {
	was := len(m.kept)
	m.kept = slices.DeleteFunc(m.kept, func(k api.Msg) bool { return k.Topic == in.Topic })
	if in.Body.Kind == api.KNil {
		return len(m.kept) < was
	}
	m.kept = append(m.kept, in)
	return true
}

// keptUnder is P30.5.
func (m *model) keptUnder(filter string) (l []api.Msg) {
	if name, _, ok := chapterSplit(filter); !ok || name != "" {
		return nil
	}
	for _, k := range m.kept {
		if topic.Match(filter, k.Topic) {
			l = append(l, k)
		}
	}
	slices.SortFunc(l, func(a, b api.Msg) int { return strings.Compare(a.Topic, b.Topic) })
	return l
}

func showMsgs(l []api.Msg) string { return fmt.Sprintf("%+v", l) }

// same is said of what messages bear, of an empty list as of one that is nil.
func same(a, b []api.Msg) bool { return slices.EqualFunc(a, b, sameMsg) }

func sameMsg(a, b api.Msg) bool {
	bodies := sameBody(a.Body, b.Body)
	a.Body, b.Body = api.Datum{}, api.Datum{}
	return bodies && fmt.Sprintf("%#v", a) == fmt.Sprintf("%#v", b)
}

func sameBody(a, b api.Datum) bool {
	parts := slices.EqualFunc(a.List, b.List, sameBody)
	a.List, b.List = nil, nil
	return parts && fmt.Sprintf("%#v", a) == fmt.Sprintf("%#v", b)
}

// pair is a hub and the model, on which the same calls are made.
type pair struct {
	*Hub
	said *model
	done []string
}

func newPair() *pair { return &pair{Hub: New(), said: newModel()} }

// note tells of a fault which calls led there.
func (p *pair) note(call string, args ...any) string {
	call = fmt.Sprintf(call, args...)
	p.done = append(p.done, call)
	return strings.Join(p.done[max(0, len(p.done)-30):], "; ")
}

func (p *pair) join(t testing.TB, text string, id int) bool {
	t.Helper()
	calls := p.note("Join(%q, %d)", text, id)
	got, want := p.Join(text, id), p.said.join(text, id)
	if got != want {
		t.Fatalf("%s: %v", calls, got)
	}
	return got
}

func (p *pair) leave(t testing.TB, text string, id int) bool {
	t.Helper()
	calls := p.note("Leave(%q, %d)", text, id)
	got, want := p.Leave(text, id), p.said.leave(text, id)
	if got != want {
		t.Fatalf("%s: %v", calls, got)
	}
	return got
}

func (p *pair) send(t testing.TB, name string) []int {
	t.Helper()
	calls := p.note("Send(%q)", name)
	got, want := p.Send(name), p.said.send(name)
	if !slices.Equal(got, want) {
		t.Fatalf("%s: %v, not %v", calls, got, want)
	}
	return got
}

func (p *pair) keep(t testing.TB, m api.Msg) bool {
	t.Helper()
	calls := p.note("Keep(%+v)", m)
	got, want := p.Keep(m), p.said.keep(m)
	if got != want {
		t.Fatalf("%s: %v", calls, got)
	}
	return got
}

func (p *pair) keptAsSaid(t testing.TB, filter string) []api.Msg {
	t.Helper()
	calls := p.note("Kept(%q)", filter)
	got, want := p.Kept(filter), p.said.keptUnder(filter)
	if !same(got, want) {
		t.Fatalf("%s: %s, not %s", calls, showMsgs(got), showMsgs(want))
	}
	return got
}

// splitAsSaid holds what Split answers against P30.1.
func splitAsSaid(t testing.TB, s string) (string, string, bool) {
	t.Helper()
	name, filter, ok := Split(s)
	if n, f, k := chapterSplit(s); name != n || filter != f || ok != k {
		t.Fatalf("Split(%q): %q, %q, %v, not %q, %q, %v", s, name, filter, ok, n, f, k)
	}
	return name, filter, ok
}

// with is a hub with these members.
func with(t testing.TB, text string, ids ...int) *pair {
	t.Helper()
	p := newPair()
	p.joinAll(t, text, ids...)
	return p
}

func (p *pair) joinAll(t testing.TB, text string, ids ...int) {
	t.Helper()
	for _, id := range ids {
		if !p.join(t, text, id) {
			t.Fatalf("Join(%q, %d): false", text, id)
		}
	}
}

// sends holds what is sent to one after the other.
func (p *pair) sends(t testing.TB, name string, want ...int) {
	t.Helper()
	for i, id := range want {
		if got := p.send(t, name); !slices.Equal(got, []int{id}) {
			t.Fatalf("the %d. time: %v, not %d", i, got, id)
		}
	}
}

func wrongTexts() []string {
	return []string{"", "a+", "#/a", "\x00", "\xff", "$share/", "$share//", "$share//a", "$share/g", "$share/g/", "$share/g/a+", "$share/g/#/a", "$share/+/a", "$share/#", "$share/g\x00/a", "$share/\xff/a", "$share/g/\xff", long("a", mostBytes+1), "$share/g/" + long("a", mostBytes+1)}
}

// someFilters have some of someNames each, and one has none of them.
func someFilters() []string {
	return []string{"#", "+", "a", "a/+", "a/#", "a/b", "+/b", "/", "+/+", "/#", "$s", "$s/#", "$share", "none"}
}

func someNames() []string {
	return []string{"a", "b", "a/b", "a/b/c", "a/", "/", "/b", "$s", "$s/b", "$share", "$share/g/a"}
}

// someNamesOfGroups go to both sides of "/" in the order of the bytes.
func someNamesOfGroups() []string { return []string{"g", "g!", "g0", "G", "$", "\u00e4", " "} }

// randomText is mostly what can be subscribed to.
func randomText(r *rand.Rand) string {
	filter := pick(r, append(someFilters(), "$share/g/a")...)
	switch r.IntN(10) {
	case 0:
		return pick(r, wrongTexts()[:17]...)
	case 1, 2, 3:
		return filter
	}
	return "$share/" + pick(r, someNamesOfGroups()...) + "/" + filter
}

// fewTexts is some of them, so that groups come to have several members.
func fewTexts(r *rand.Rand) (l []string) {
	for range 1 + r.IntN(8) {
		l = append(l, randomText(r))
	}
	return l
}

// randomBody is some value, often none, often one with parts.
func randomBody(r *rand.Rand, deep int) api.Datum {
	switch r.IntN(4 + deep) {
	case 0:
		return api.Datum{}
	case 1:
		return number(int64(r.Uint64()))
	case 2:
		return api.Datum{Kind: api.KText, Text: pick(r, "", "t", "u")}
	case 3:
		return number(r.Int64N(4))
	}
	d := list()
	for range r.IntN(4) {
		d.List = append(d.List, randomBody(r, deep-1))
	}
	return d
}

// randomMsg is a fit one, with something in each field.
func randomMsg(r *rand.Rand) api.Msg {
	return api.Msg{
		Id: int64(r.Uint64()), Topic: pick(r, someNames()...), Body: randomBody(r, 2),
		At: r.Int64N(api.MaxTick + 1), Until: r.Int64N(api.MaxTick + 1), Reply: pick(r, "", "r", "r/1"),
		Corr: int64(r.Uint64()), Prio: r.IntN(9) - 4, Hops: r.IntN(api.MaxHops + 1),
	}
}
