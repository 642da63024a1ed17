package snap

import (
	"bytes"
	"encoding/binary"
	"hash/crc32"
	"math"
	"math/rand/v2"
	"reflect"
	"slices"
	"strconv"
	"strings"
	"testing"

	"conduit/api"
	"conduit/built"
	"conduit/bus"
	"conduit/check"
	"conduit/datum"
	"conduit/shown"
	"conduit/wire"
)

func newRandom(seed uint64) *rand.Rand { return rand.New(rand.NewPCG(seed, 29)) }

func pick[T any](r *rand.Rand, l ...T) T { return l[r.IntN(len(l))] }

func plan(t testing.TB, config string) api.Plan {
	t.Helper()
	p, f := check.Load([]byte(config))
	if f.Err != api.OK {
		t.Fatalf("%.200s: %v", config, f)
	}
	return p
}

func read(t testing.TB, s string) api.Datum {
	t.Helper()
	d, e := datum.Parse(s)
	if e != api.OK {
		t.Fatalf("%.100s is no value", s)
	}
	return d
}

func number(n int64) api.Datum { return api.Datum{Kind: api.KInt, Int: n} }

func list(l ...api.Datum) api.Datum { return api.Datum{Kind: api.KList, List: l} }

func publishing(topic string, body api.Datum) api.Step {
	return api.Step{Kind: api.StPublish, Msg: api.Msg{Topic: topic, Body: body}}
}

func working(n int64) api.Step { return api.Step{Kind: api.StWork, N: n} }

func ticking(n int64) api.Step { return api.Step{Kind: api.StTick, N: n} }

func closing() api.Step { return api.Step{Kind: api.StClose} }

func calling(h, which int, arg api.Datum) api.Step {
	return api.Step{Kind: api.StCall, Handler: h, Cap: which, Arg: arg}
}

// after is the state that steps lead to, from the first one on.
func after(p api.Plan, l ...api.Step) api.Bus {
	st, _ := bus.Run(p, l)
	return st
}

// chapterBytes is fields one behind the other: ints as signed numbers, unsigned ones as numbers, lists of fields as they are.
func chapterBytes(fields ...any) (b []byte) {
	for _, f := range fields {
		switch f := f.(type) {
		case uint64:
			b = binary.AppendUvarint(b, f)
		case int64:
			b = binary.AppendVarint(b, f)
		case int:
			b = binary.AppendVarint(b, int64(f))
		case string:
			b = append(binary.AppendUvarint(b, uint64(len(f))), f...)
		case api.Datum:
			b = append(b, wire.Datum(f)...)
		case bool:
			b = append(b, map[bool]byte{true: 1}[f])
		case []any:
			b = append(b, chapterBytes(f...)...)
		}
	}
	return b
}

// listed is a list's fields: how many parts there are, and those of each.
func listed[T any](l []T, part func(x T) []any) []any {
	out := []any{uint64(len(l))}
	for _, x := range l {
		out = append(out, part(x)...)
	}
	return out
}

func messages(l []api.Msg) []any {
	return listed(l, func(m api.Msg) []any {
		return []any{m.Id, m.At, m.Until, m.Corr, m.Prio, m.Hops, m.Topic, m.Reply, m.Body}
	})
}

// chapterState is the bytes of a text and a state.
func chapterState(text string, st api.Bus) []byte {
	asks := listed(st.Asks.Wait, func(a api.Ask) []any { return []any{a.Corr, a.Until, a.Topic} })
	posts := listed(st.Posts, func(post api.Post) []any {
		core := post.Built.Core
		values := listed(core.List, func(d api.Datum) []any { return []any{d} })
		wraps := listed(post.Built.Wraps, func(w api.WrapState) []any {
			ids := listed(w.Dedup.Ids, func(id int64) []any { return []any{id} })
			return []any{w.Limit.Level, w.Limit.Last, w.Breaker.Fails, w.Breaker.Until, ids, messages(w.Buffer.Msgs), w.Buffer.Since, w.Until}
		})
		return []any{core.Count, core.Acked, core.Last, values, core.Closed, core.Until, wraps, messages(post.Inbox.Msgs), post.Inbox.Refused, post.Inbox.Dropped, messages(post.Held), post.Closed}
	})
	return chapterBytes(text, st.Now, st.Next, st.Turn, st.Asks.Next, asks, posts)
}

// enclosed is a snapshot of bytes, whatever they are.
func enclosed(b []byte) []byte {
	b = slices.Concat([]byte("CNDS\x01"), b)
	return binary.LittleEndian.AppendUint32(b, crc32.ChecksumIEEE(b))
}

// inner is what enclosed encloses.
func inner(b []byte) []byte { return bytes.Clone(b[5 : len(b)-4]) }

// chapterSave is P29.1.
func chapterSave(p api.Plan, st api.Bus) []byte { return enclosed(chapterState(check.Write(p), st)) }

// loose reads fields, be they written in more bytes than it takes, too; what is none is nought.
type loose struct{ b []byte }

func (x *loose) skip(n int) { x.b = x.b[max(0, min(n, len(x.b))):] }

func (x *loose) number() int64 {
	v, n := binary.Uvarint(x.b)
	x.skip(n)
	return int64(v)
}

func (x *loose) signed() int64 {
	v, n := binary.Varint(x.b)
	x.skip(n)
	return v
}

func (x *loose) text() string {
	n := x.number()
	if n < 0 || n > int64(len(x.b)) {
		return ""
	}
	s := string(x.b[:n])
	x.skip(int(n))
	return s
}

func (x *loose) truth() bool {
	is := len(x.b) > 0 && x.b[0] == 1
	x.skip(1)
	return is
}

func (x *loose) value() api.Datum {
	d, n, _ := wire.ReadDatum(x.b)
	x.skip(n)
	return d
}

// listIn reads a list, as long as each part takes bytes.
func listIn[T any](x *loose, part func() T) (l []T) {
	for range x.number() {
		left := len(x.b)
		if l = append(l, part()); len(x.b) == left {
			break
		}
	}
	return l
}

func (x *loose) message() api.Msg {
	return api.Msg{Id: x.signed(), At: x.signed(), Until: x.signed(), Corr: x.signed(), Prio: int(x.signed()), Hops: int(x.signed()), Topic: x.text(), Reply: x.text(), Body: x.value()}
}

func (x *loose) wrap() (w api.WrapState) {
	w.Limit.Level, w.Limit.Last = x.signed(), x.signed()
	w.Breaker.Fails, w.Breaker.Until = x.signed(), x.signed()
	w.Dedup.Ids = listIn(x, x.signed)
	w.Buffer.Msgs = listIn(x, x.message)
	w.Buffer.Since, w.Until = x.signed(), x.signed()
	return w
}

func (x *loose) post() (post api.Post) {
	core := &post.Built.Core
	core.Count, core.Acked, core.Last = x.signed(), x.signed(), x.value()
	core.List = listIn(x, x.value)
	core.Closed, core.Until = x.truth(), x.signed()
	post.Built.Wraps = listIn(x, x.wrap)
	post.Inbox.Msgs = listIn(x, x.message)
	post.Inbox.Refused, post.Inbox.Dropped = x.signed(), x.signed()
	post.Held = listIn(x, x.message)
	post.Closed = x.truth()
	return post
}

func (x *loose) state() (st api.Bus) {
	st.Now, st.Next, st.Turn, st.Asks.Next = x.signed(), x.signed(), int(x.signed()), x.signed()
	st.Asks.Wait = listIn(x, func() api.Ask { return api.Ask{Corr: x.signed(), Until: x.signed(), Topic: x.text()} })
	st.Posts = listIn(x, x.post)
	return st
}

// chapterLoad is P29.2: what bytes are is what loose reads of them, if that is written so.
func chapterLoad(p api.Plan, b []byte) (api.Bus, api.Errno) {
	if len(b) < 9 || string(b[:5]) != "CNDS\x01" {
		return api.Bus{}, api.ErrForm
	}
	if binary.LittleEndian.Uint32(b[len(b)-4:]) != crc32.ChecksumIEEE(b[:len(b)-4]) {
		return api.Bus{}, api.ErrSum
	}
	x := loose{inner(b)}
	text, st := x.text(), x.state()
	switch {
	case !bytes.Equal(chapterState(text, st), inner(b)):
		return api.Bus{}, api.ErrForm
	case text != check.Write(p):
		return api.Bus{}, api.ErrOther
	case !bus.Fit(p, st):
		return api.Bus{}, api.ErrState
	}
	return st, api.OK
}

// chapterKeep is P29.3.
func chapterKeep(p api.Plan, st api.Bus) (l []api.Done) {
	for h, handler := range p.Handlers {
		if !st.Posts[h].Closed && shown.Who(handler.Chain, api.CapSave) >= 0 {
			_, _, result := built.Call(handler.Chain, st.Posts[h].Built, api.CapSave, api.Datum{}, st.Now, false)
			l = append(l, api.Done{Id: int64(h), Result: result})
		}
	}
	return l
}

// chapterGive is P29.4.
func chapterGive(p api.Plan, st api.Bus, l []api.Done) (api.Bus, []api.Done) {
	st.Posts = slices.Clone(st.Posts)
	var told []api.Done
	for _, d := range l {
		if d.Id >= 0 && d.Id < int64(len(p.Handlers)) && d.Result.Err == api.OK && d.Result.Has && datum.Valid(d.Result.Body) {
			next, _, result := built.Call(p.Handlers[d.Id].Chain, st.Posts[d.Id].Built, api.CapLoad, d.Result.Body, st.Now, false)
			st.Posts[d.Id].Built = next
			told = append(told, api.Done{Id: d.Id, Result: result})
		}
	}
	return st, told
}

func sameMsg(a, b api.Msg) bool {
	if !datum.Same(a.Body, b.Body) {
		return false
	}
	a.Body, b.Body = api.Datum{}, api.Datum{}
	return reflect.DeepEqual(a, b)
}

func sameMsgs(a, b []api.Msg) bool { return slices.EqualFunc(a, b, sameMsg) }

func sameCore(a, b api.CoreState) bool {
	return a.Count == b.Count && a.Acked == b.Acked && a.Closed == b.Closed && a.Until == b.Until && datum.Same(a.Last, b.Last) && slices.EqualFunc(a.List, b.List, datum.Same)
}

func sameWrap(a, b api.WrapState) bool {
	return a.Limit == b.Limit && a.Breaker == b.Breaker && slices.Equal(a.Dedup.Ids, b.Dedup.Ids) && sameMsgs(a.Buffer.Msgs, b.Buffer.Msgs) && a.Buffer.Since == b.Buffer.Since && a.Until == b.Until
}

func samePost(a, b api.Post) bool {
	inboxes := sameMsgs(a.Inbox.Msgs, b.Inbox.Msgs) && a.Inbox.Refused == b.Inbox.Refused && a.Inbox.Dropped == b.Inbox.Dropped
	return inboxes && a.Closed == b.Closed && sameMsgs(a.Held, b.Held) && sameCore(a.Built.Core, b.Built.Core) && slices.EqualFunc(a.Built.Wraps, b.Built.Wraps, sameWrap)
}

// same holds two states against each other, field by field; lists that are empty may be nil.
func same(a, b api.Bus) bool {
	return a.Now == b.Now && a.Next == b.Next && a.Turn == b.Turn && a.Asks.Next == b.Asks.Next && slices.Equal(a.Asks.Wait, b.Asks.Wait) && slices.EqualFunc(a.Posts, b.Posts, samePost)
}

func sameResult(a, b api.Result) bool {
	return a.Err == b.Err && a.Code == b.Code && a.Panic == b.Panic && a.Has == b.Has && datum.Same(a.Body, b.Body)
}

func sameDone(a, b api.Done) bool { return a.Id == b.Id && sameResult(a.Result, b.Result) }

func sameDones(a, b []api.Done) bool { return slices.EqualFunc(a, b, sameDone) }

func short(b []byte) []byte { return b[:min(len(b), 200)] }

// saveAsSaid holds what Save answers against P29.1.
func saveAsSaid(t testing.TB, p api.Plan, st api.Bus) []byte {
	t.Helper()
	b := Save(p, st)
	if want := chapterSave(p, st); !bytes.Equal(b, want) {
		t.Fatalf("%.500s%.1000v:\n% x, not\n% x", check.Write(p), st, short(b), short(want))
	}
	return b
}

// loadAsSaid holds what Load answers against P29.2.
func loadAsSaid(t testing.TB, p api.Plan, b []byte) (api.Bus, api.Errno) {
	t.Helper()
	st, e := Load(p, b)
	if want, wantE := chapterLoad(p, b); e != wantE || !same(st, want) {
		t.Fatalf("%.500s%d bytes, % x: %.1000v, %v, not %.1000v, %v", check.Write(p), len(b), short(b), st, e, want, wantE)
	}
	return st, e
}

// keepAsSaid holds what Keep answers against P29.3.
func keepAsSaid(t testing.TB, p api.Plan, st api.Bus) []api.Done {
	t.Helper()
	l := Keep(p, st)
	if want := chapterKeep(p, st); !sameDones(l, want) {
		t.Fatalf("%.500s%.1000v: %.500v, not %.500v", check.Write(p), st, l, want)
	}
	return l
}

// giveAsSaid holds what Give answers against P29.4.
func giveAsSaid(t testing.TB, p api.Plan, st api.Bus, l []api.Done) (api.Bus, []api.Done) {
	t.Helper()
	next, told := Give(p, st, l)
	if want, wantTold := chapterGive(p, st, l); !same(next, want) || !sameDones(told, wantTold) {
		t.Fatalf("%.500s%.1000v, %.500v: %.1000v, %.500v, not %.1000v, %.500v", check.Write(p), st, l, next, told, want, wantTold)
	}
	return next, told
}

var (
	someCores = []string{
		"echo", "echo caps flush, close", "count", "count caps save, load", "count caps save", "count caps save, load, until", "count caps close, save, load, until", "store 2", "store caps save, load, close", "store caps flush, save, load, until",
		"sum", "sum caps save, load, close", "size", "fail 3", "panic", "nth 0", "none", "mute", "less caps save, load, until", "less caps ack, until, save, load",
	}
	someWraps = []string{
		"through", "mask caps close, save, load", "open mask caps load", "hide", "open hide", "give caps save", "give caps load, name", "retry 3", "limit 2 3", "breaker 2 4",
		"dedup 2", "dedup 5", "buffer 2 0", "buffer 3 4", "open buffer 4 1", "filter when int", "filter when !text", "map:double", "map:list", "map:pair", "until 3", "open until 9",
	}
	someFilters = []string{"x", "x", "y", "r", "r", "x/#", "x/+", "#", "$s"}
	someTopics  = []string{"x", "x", "x", "y", "r", "r", "x/1", "$s", "z"}
	someValues  = []string{"5", "1", "-7", "300", `"t"`, "nil", "[1, 2]", "[[3], 4]", `(1, "x")`, "&1(5)", "&nil", "true", "f3ff0000000000000", "f7ff8000000000001", `!3"e"`, "%00ff", "{}"}
)

// randomPlan has handlers that pass messages to one another by their answers, and rooms that are soon full.
func randomPlan(t testing.TB, r *rand.Rand) api.Plan {
	t.Helper()
	var b strings.Builder
	n := pick(r, 0, 1, 2, 3, 3, 4)
	for h := range n {
		b.WriteString("handler h" + strconv.Itoa(h) + " = " + pick(r, someCores...))
		for range pick(r, 0, 0, 1, 1, 2, 3) {
			b.WriteString(" with " + pick(r, someWraps...))
		}
		b.WriteString(pick(r, "", "", " inbox 1 drop old", " inbox 2 drop none", " inbox 3") + ";\n")
	}
	for range 2 * n {
		b.WriteString("route \"" + pick(r, someFilters...) + "\"" + pick(r, "", "", "", " when int", " else") + " -> h" + strconv.Itoa(r.IntN(n)) + ";\n")
	}
	return plan(t, b.String())
}

func randomInt(r *rand.Rand) int64 {
	return pick(r, 0, -1, r.Int64N(200)-100, math.MaxInt64, math.MinInt64, int64(r.Uint64()))
}

func randomTick(r *rand.Rand) int64 {
	return pick(r, 0, r.Int64N(12), r.Int64N(12), api.MaxTick-r.Int64N(4), r.Int64N(api.MaxTick))
}

func randomValue(t testing.TB, r *rand.Rand) api.Datum { return read(t, pick(r, someValues...)) }

// randomStep is fit; most publish and work.
func randomStep(t testing.TB, r *rand.Rand, p api.Plan) api.Step {
	t.Helper()
	s := api.Step{Kind: pick(r, api.StPublish, api.StPublish, api.StPublish, api.StAsk, api.StAsk, api.StWork, api.StWork, api.StTick, api.StCall)}
	switch s.Kind {
	case api.StPublish, api.StAsk:
		s.Msg = api.Msg{Topic: pick(r, someTopics...), Body: randomValue(t, r), Until: pick(r, 0, 0, randomTick(r)), Corr: pick(r, 0, 0, r.Int64N(5)), Prio: pick(r, 0, 1, int(randomInt(r)))}
		s.Msg.Reply = pick(r, "r", "r", "x")
		if s.Kind == api.StPublish {
			s.Msg.Reply = pick(r, "", "", "r", "x", "y")
		}
		s.N = pick(r, 0, 1, r.Int64N(9), api.MaxTick)
	case api.StWork:
		s.N = pick(r, 1, 1, r.Int64N(6), 40)
	case api.StTick:
		s.N = pick(r, 0, 1, 2, r.Int64N(9))
	case api.StCall:
		s.Handler, s.Cap, s.Deep = r.IntN(len(p.Handlers)+1), r.IntN(api.NumCaps), r.IntN(2) == 0
		s.Arg = pick(r, randomValue(t, r), list(number(1), list(number(3))), read(t, "([2, 3, 0, false], (7, [1, \"k\"]))"))
	}
	if r.IntN(60) == 0 {
		return closing()
	}
	return s
}

// randomState is fit: one that steps have led to, where much is another thing than steps would make of it.
func randomState(t testing.TB, r *rand.Rand, p api.Plan) api.Bus {
	t.Helper()
	st := bus.New(p)
	for range r.IntN(16) {
		st, _ = bus.Do(p, st, randomStep(t, r, p))
	}
	if r.IntN(2) == 0 {
		st.Now, st.Next = randomTick(r), pick(r, st.Next, r.Int64N(5), 1<<59)
		st.Asks = randomAsks(r)
	}
	for h := range st.Posts {
		if r.IntN(3) > 0 {
			continue
		}
		post := &st.Posts[h]
		post.Closed = r.IntN(3) == 0
		post.Inbox.Refused, post.Inbox.Dropped = r.Int64N(1<<60), r.Int64N(9)
		post.Inbox.Msgs = randomMsgs(t, r, min(p.Handlers[h].Inbox, 6))
		post.Held = randomMsgs(t, r, 4)
	}
	st.Turn = r.IntN(max(len(p.Handlers), 1))
	if !bus.Fit(p, st) {
		t.Fatalf("%s%v is not fit", check.Write(p), st)
	}
	return st
}

func randomAsks(r *rand.Rand) (st api.Asks) {
	for range r.IntN(5) {
		st.Next += 1 + r.Int64N(200)
		st.Wait = append(st.Wait, api.Ask{Corr: st.Next, Until: randomTick(r), Topic: pick(r, "r", "x", "", "#", "\xff")})
	}
	return st
}

// randomMsgs are fit ones, with any Id and Corr.
func randomMsgs(t testing.TB, r *rand.Rand, most int) (l []api.Msg) {
	t.Helper()
	for range r.IntN(most + 1) {
		l = append(l, api.Msg{
			Id: randomInt(r), Topic: pick(r, someTopics...), Body: randomValue(t, r), At: randomTick(r), Until: pick(r, 0, randomTick(r)),
			Reply: pick(r, "", "r", "x"), Corr: randomInt(r), Prio: int(randomInt(r)), Hops: r.IntN(9),
		})
	}
	return l
}

// randomUnfit is a state with all kinds of parts, valid values among them, mostly one that is fit with no plan.
func randomUnfit(t testing.TB, r *rand.Rand) api.Bus {
	t.Helper()
	text := func() string { return pick(r, "", "x", "#", "\xff\x00", strings.Repeat("y", 200)) }
	msgs := func() (l []api.Msg) {
		for range r.IntN(3) {
			l = append(l, api.Msg{Id: randomInt(r), Topic: text(), Body: randomValue(t, r), At: randomInt(r), Until: randomInt(r), Reply: text(), Corr: randomInt(r), Prio: int(randomInt(r)), Hops: int(randomInt(r))})
		}
		return l
	}
	st := api.Bus{Now: randomInt(r), Next: randomInt(r), Turn: int(randomInt(r)), Asks: api.Asks{Next: randomInt(r)}}
	for range r.IntN(3) {
		st.Asks.Wait = append(st.Asks.Wait, api.Ask{Corr: randomInt(r), Until: randomInt(r), Topic: text()})
	}
	for range r.IntN(3) {
		core := api.CoreState{Count: randomInt(r), Acked: randomInt(r), Last: randomValue(t, r), Closed: r.IntN(2) == 0, Until: randomInt(r)}
		for range r.IntN(3) {
			core.List = append(core.List, randomValue(t, r))
		}
		post := api.Post{Built: api.Built{Core: core}, Inbox: api.Inbox{Msgs: msgs(), Refused: randomInt(r), Dropped: randomInt(r)}, Held: msgs(), Closed: r.IntN(2) == 0}
		for range r.IntN(3) {
			w := api.WrapState{Limit: api.Limit{Level: randomInt(r), Last: randomInt(r)}, Breaker: api.Breaker{Fails: randomInt(r), Until: randomInt(r)}, Buffer: api.Buffer{Msgs: msgs(), Since: randomInt(r)}, Until: randomInt(r)}
			for range r.IntN(3) {
				w.Dedup.Ids = append(w.Dedup.Ids, randomInt(r))
			}
			post.Built.Wraps = append(post.Built.Wraps, w)
		}
		st.Posts = append(st.Posts, post)
	}
	return st
}

// randomKept is what Keep has told, or what might have been, some of it turned into what Give must leave.
func randomKept(t testing.TB, r *rand.Rand, p api.Plan, st api.Bus) []api.Done {
	t.Helper()
	l := Keep(p, st)
	for range r.IntN(4) {
		body := pick(r, randomValue(t, r), read(t, "([2, 3, 0, false], (7, []))"), read(t, `([0, 1, 9, true], (nil, [1, "k"]))`))
		l = append(l, api.Done{Id: r.Int64N(5), Result: api.Result{Has: true, Body: body}})
	}
	for i := range l {
		if r.IntN(4) > 0 {
			continue
		}
		d := &l[i]
		switch r.IntN(4) {
		case 0:
			d.Id = pick(r, -1, int64(len(p.Handlers)), math.MaxInt64, math.MinInt64)
		case 1:
			d.Result.Err = pick(r, api.ErrHandler, api.ErrPanic, -1)
		case 2:
			d.Result.Has = false
		case 3:
			d.Result.Body = list(api.Datum{Kind: api.NumKinds})
		}
	}
	r.Shuffle(len(l), func(i, j int) { l[i], l[j] = l[j], l[i] })
	return l
}

// turned is bytes of which a few are others, or are gone, or have others between.
func turned(r *rand.Rand, b []byte) []byte {
	b = bytes.Clone(b)
	for range 1 + r.IntN(2) {
		at := r.IntN(len(b) + 1)
		x := pick(r, 0, 1, 2, 127, 128, 255, byte(r.IntN(14)), byte(r.Uint32()))
		switch {
		case r.IntN(4) == 0:
			b = slices.Insert(b, at, x)
		case at == len(b):
			b = b[:r.IntN(len(b)+1)]
		case r.IntN(4) == 0:
			b = slices.Delete(b, at, at+1)
		default:
			b[at] = x
		}
	}
	return b
}
