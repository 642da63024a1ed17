package check

import (
	"fmt"
	"math/big"
	"math/rand/v2"
	"reflect"
	"regexp"
	"slices"
	"strings"
	"testing"

	"conduit/api"
	"conduit/parse"
	"conduit/scan"
	"conduit/topic"
)

func newRandom(seed uint64) *rand.Rand { return rand.New(rand.NewPCG(seed, 8)) }

func pick[T any](r *rand.Rand, l ...T) T { return l[r.IntN(len(l))] }

func kind(k int) api.Want { return api.Want{Op: api.WKind, Num: k} }

func op(o int, l ...api.Want) api.Want { return api.Want{Op: o, List: l} }

// The chapter's tables, as it writes them: a core's word, Op, range and number if there is none.
const chapterCores = `echo 1
count 2
store 3 0 1000000 0
sum 4
size 5
unbox 6
fail 7 -9223372036854775808 9223372036854775807 1
panic 8 -9223372036854775808 9223372036854775807 1
nth 9 -9223372036854775808 9223372036854775807 0
none 10
mute 11
less 12`

// A wrapper's word, Op, and what must stand there: ":", "caps", "when", or its numbers' ranges.
const chapterWraps = `through 1
mask 2 caps
hide 3
give 4 caps
retry 5 1 16
limit 6 1 1000000 1 1000000
breaker 7 1 1000 1 1000000
dedup 8 1 4096
buffer 9 1 1000 0 1000000
filter 10 when
map 11 :
until 12 1 1000000`

const (
	chapterShapes = "double list unbox size name not pair key"
	chapterDrops  = "new old none"
	chapterCaps   = "flush close batch ack ping reset save load name until"
	chapterKeeps  = "count store sum less"
)

// fields are those of the line of a table whose field at that place is s; nil: there is none.
func fields(table, s string, at int) []string {
	for line := range strings.Lines(table) {
		if l := strings.Fields(line); l[at] == s {
			return l
		}
	}
	return nil
}

// among is the place of a word in a row of them; -1: it is none.
func among(row, word string) int { return slices.Index(strings.Fields(row), word) }

func number(s string) *big.Int {
	n, ok := new(big.Int).SetString(s, 10)
	if !ok {
		panic(s)
	}
	return n
}

func within(n *big.Int, least, most string) bool {
	return n.Cmp(number(least)) >= 0 && n.Cmp(number(most)) <= 0
}

// chapter goes through a tree in the chapter's order, and notes each fault that it comes to.
type chapter struct {
	faults []api.Fault
	plan   api.Plan
}

func (c *chapter) note(is bool, pos int, e api.Errno) bool {
	if is {
		c.faults = append(c.faults, api.Fault{Pos: pos, Err: e})
	}
	return is
}

// chapterCheck is P8.1.
func chapterCheck(t api.Tree) (api.Plan, api.Fault) {
	c := &chapter{}
	for i, h := range t.Handlers {
		c.note(i >= 64, h.Pos, api.ErrMany)
		c.note(place(t.Handlers[:i], h.Name) >= 0, h.Pos, api.ErrTwice)
	}
	for i, h := range t.Handlers {
		c.handler(t, i, h)
	}
	for i, d := range t.Routes {
		c.note(i >= 128, d.Pos, api.ErrMany)
		c.note(!topic.Filter(d.Filter.Name), d.Filter.Pos, api.ErrFilter)
		to := place(t.Handlers, d.To.Name)
		c.note(to < 0, d.To.Pos, api.ErrUnknown)
		c.plan.Routes = append(c.plan.Routes, api.Route{Filter: d.Filter.Name, Want: d.Want, Handler: to, Else: d.Else})
	}
	if len(c.faults) > 0 {
		return api.Plan{}, c.faults[0]
	}
	return c.plan, api.Fault{}
}

func place(l []api.HandlerDecl, name string) int {
	return slices.IndexFunc(l, func(h api.HandlerDecl) bool { return h.Name == name })
}

func (c *chapter) handler(t api.Tree, i int, h api.HandlerDecl) {
	n := api.Named{Name: h.Name, Inbox: 64}
	if h.Of.Name != "" {
		of := place(t.Handlers[:i], h.Of.Name)
		if !c.note(of < 0, h.Of.Pos, api.ErrUnknown) {
			n.Chain = c.plan.Handlers[of].Chain
			n.Chain.Wraps = slices.Clone(n.Chain.Wraps)
		}
	} else {
		n.Chain.Core = c.core(h.Core)
	}
	for _, w := range h.Wraps {
		c.note(len(n.Chain.Wraps) >= 8, w.Pos, api.ErrMany)
		n.Chain.Wraps = append(n.Chain.Wraps, c.wrap(w))
	}
	if h.Room {
		c.note(h.Inbox < 1 || h.Inbox > 1024, h.Pos, api.ErrRange)
		n.Inbox = int(h.Inbox)
		if h.Drop.Name != "" {
			n.Drop = among(chapterDrops, h.Drop.Name)
			c.note(n.Drop < 0, h.Drop.Pos, api.ErrUnknown)
		}
	}
	for _, u := range h.After {
		a := place(t.Handlers, u.Name)
		if !c.note(a < 0, u.Pos, api.ErrUnknown) {
			c.note(slices.Contains(n.After, a), u.Pos, api.ErrTwice)
		}
		n.After = append(n.After, a)
	}
	c.plan.Handlers = append(c.plan.Handlers, n)
}

func (c *chapter) core(d api.CoreDecl) api.Core {
	row := fields(chapterCores, d.Word, 0)
	if c.note(row == nil, d.Pos, api.ErrUnknown) {
		return api.Core{}
	}
	n := new(big.Int).SetUint64(d.Num)
	if d.Minus {
		n.Neg(n)
	}
	switch {
	case d.Has:
		c.note(len(row) < 5 || !within(n, row[2], row[3]), d.Pos, api.ErrRange)
	case len(row) == 5:
		n = number(row[4])
	}
	set := c.set(d.Caps)
	c.note(!chapterProper(d.Word, set), d.Pos, api.ErrCaps)
	return api.Core{Op: int(number(row[1]).Int64()), Num: n.Int64(), Caps: set}
}

// chapterProper tells whether a core of that word may have such capabilities.
func chapterProper(word string, set api.Caps) bool {
	has := func(cap string) bool { return set>>among(chapterCaps, cap)&1 == 1 }
	for one, other := range map[string]string{"batch": "flush", "load": "save", "ack": "until", "reset": "ping"} {
		if has(one) && !has(other) {
			return false
		}
	}
	return among(chapterKeeps, word) >= 0 || !has("save") && !has("load")
}

func (c *chapter) set(l []api.Use) api.Caps {
	var set api.Caps
	for _, u := range l {
		k := among(chapterCaps, u.Name)
		if !c.note(k < 0, u.Pos, api.ErrUnknown) {
			c.note(set>>k&1 == 1, u.Pos, api.ErrTwice)
			set |= 1 << k
		}
	}
	return set
}

func (c *chapter) wrap(d api.WrapDecl) api.Wrap {
	row := fields(chapterWraps, d.Word, 0)
	if c.note(row == nil, d.Pos, api.ErrUnknown) {
		return api.Wrap{}
	}
	w := api.Wrap{Op: int(number(row[1]).Int64()), Want: d.Want, Open: d.Open}
	must := append(row[2:], "")[0]
	if must == ":" {
		w.A = int64(among(chapterShapes, d.Sub) + 1)
		c.note(w.A == 0, d.Pos, api.ErrUnknown)
	} else {
		c.note(d.Sub != "", d.Pos, api.ErrUnknown)
	}
	ranges := row[2:]
	if len(ranges) < 2 {
		ranges = nil
	}
	if !c.note(len(ranges) != 2*len(d.Nums), d.Pos, api.ErrRange) {
		for i, n := range d.Nums {
			c.note(!within(new(big.Int).SetUint64(n), ranges[2*i], ranges[2*i+1]), d.Pos, api.ErrRange)
			*[]*int64{&w.A, &w.B}[i] = int64(n)
		}
	}
	w.Caps = c.set(d.Caps)
	c.note((must == "caps") != (len(d.Caps) > 0), d.Pos, api.ErrCaps)
	c.note((must == "when") != d.When, d.Pos, api.ErrRange)
	return w
}

// chapterChain is P8.3.
func chapterChain(ch api.Chain) bool {
	row := fields(chapterCores, fmt.Sprint(ch.Core.Op), 1)
	if row == nil || ch.Core.Caps>>10 != 0 || !chapterProper(row[0], ch.Core.Caps) || len(ch.Wraps) > 8 {
		return false
	}
	if len(row) == 2 && ch.Core.Num != 0 || len(row) > 2 && !within(big.NewInt(ch.Core.Num), row[2], row[3]) {
		return false
	}
	for _, w := range ch.Wraps {
		if !chapterWrap(w) {
			return false
		}
	}
	return true
}

func chapterWrap(w api.Wrap) bool {
	row := fields(chapterWraps, fmt.Sprint(w.Op), 1)
	if row == nil {
		return false
	}
	a, b := []string{"0", "0"}, []string{"0", "0"}
	caps, when := false, false
	switch l := row[2:]; len(l) {
	case 1:
		caps, when = l[0] == "caps", l[0] == "when"
		if l[0] == ":" {
			a = []string{"1", "8"}
		}
	case 2:
		a = l
	case 4:
		a, b = l[:2], l[2:]
	}
	if when && parse.Text(w.Want) == "" || !when && !none(w.Want) {
		return false
	}
	return within(big.NewInt(w.A), a[0], a[1]) && within(big.NewInt(w.B), b[0], b[1]) && w.Caps>>10 == 0 && caps == (w.Caps != 0)
}

func none(w api.Want) bool { return w.Op == 0 && w.Num == 0 && len(w.List) == 0 }

// chapterName tells whether a text is a name, as chapter 6 has it.
func chapterName(s string) bool {
	return regexp.MustCompile(`^[a-zA-Z_][a-zA-Z0-9_]{0,31}$`).MatchString(s) && among("after caps drop else handler inbox of open route when with", s) < 0
}

// chapterFit is P8.4.
func chapterFit(p api.Plan) bool {
	if len(p.Handlers) > 64 || len(p.Routes) > 128 {
		return false
	}
	is := func(n int) bool { return n >= 0 && n < len(p.Handlers) }
	for i, h := range p.Handlers {
		if !chapterName(h.Name) || slices.ContainsFunc(p.Handlers[:i], func(o api.Named) bool { return o.Name == h.Name }) {
			return false
		}
		if !chapterChain(h.Chain) || h.Inbox < 1 || h.Inbox > 1024 || h.Drop < 0 || h.Drop > 2 {
			return false
		}
		for j, n := range h.After {
			if !is(n) || slices.Contains(h.After[:j], n) {
				return false
			}
		}
	}
	for _, r := range p.Routes {
		if !topic.Filter(r.Filter) || !is(r.Handler) || !none(r.Want) && (r.Else || parse.Text(r.Want) == "") {
			return false
		}
	}
	return true
}

// chapterWrite is P8.5 of a fit plan.
func chapterWrite(p api.Plan) string {
	s := ""
	for _, h := range p.Handlers {
		s += "handler " + h.Name + " = " + chapterCore(h.Chain.Core)
		for _, w := range h.Chain.Wraps {
			s += chapterWrapText(w)
		}
		s += fmt.Sprintf(" inbox %d drop %s", h.Inbox, strings.Fields(chapterDrops)[h.Drop])
		var after []string
		for _, n := range h.After {
			after = append(after, p.Handlers[n].Name)
		}
		if len(after) > 0 {
			s += " after " + strings.Join(after, ", ")
		}
		s += ";\n"
	}
	for _, r := range p.Routes {
		s += "route " + scan.Quote(r.Filter)
		if !none(r.Want) {
			s += " when " + parse.Text(r.Want)
		}
		if r.Else {
			s += " else"
		}
		s += " -> " + p.Handlers[r.Handler].Name + ";\n"
	}
	return s
}

func chapterCore(c api.Core) string {
	row := fields(chapterCores, fmt.Sprint(c.Op), 1)
	s := row[0]
	if len(row) > 2 {
		s += fmt.Sprintf(" %d", c.Num)
	}
	return s + chapterCapsText(c.Caps)
}

func chapterWrapText(w api.Wrap) string {
	row := fields(chapterWraps, fmt.Sprint(w.Op), 1)
	s := " with "
	if w.Open {
		s += "open "
	}
	s += row[0]
	switch l := row[2:]; {
	case len(l) == 1 && l[0] == ":":
		s += ":" + strings.Fields(chapterShapes)[w.A-1]
	case len(l) == 1 && l[0] == "when":
		s += " when " + parse.Text(w.Want)
	case len(l) == 2:
		s += fmt.Sprintf(" %d", w.A)
	case len(l) == 4:
		s += fmt.Sprintf(" %d %d", w.A, w.B)
	}
	return s + chapterCapsText(w.Caps)
}

func chapterCapsText(set api.Caps) string {
	var l []string
	for k, word := range strings.Fields(chapterCaps) {
		if set>>k&1 == 1 {
			l = append(l, word)
		}
	}
	if len(l) == 0 {
		return ""
	}
	return " caps " + strings.Join(l, ", ")
}

// maker makes random trees, in which something is wrong in one of so many places.
type maker struct {
	r     *rand.Rand
	wrong int // 0: nothing is wrong
	pos   int
}

func (m *maker) bad() bool { return m.wrong > 0 && m.r.IntN(m.wrong) == 0 }

// at is a place of its own, in no order.
func (m *maker) at() int {
	m.pos++
	return m.pos * 7919 % 100003
}

func (m *maker) use(name string) api.Use { return api.Use{Name: name, Pos: m.at()} }

// names has words that mean something elsewhere, too.
func names() []string {
	return []string{"a", "b", "_", "Z9", "echo", "any", "new", "flush", "retry", "double", "x_y", strings.Repeat("n", 32)}
}

func (m *maker) want(deep int) api.Want {
	switch n := m.r.IntN(6); {
	case n < 3 || deep == 0:
		return kind(m.r.IntN(api.NumKinds))
	case n == 3:
		return op(api.WNot, m.want(deep-1))
	case n == 4:
		return op(api.WOr, m.want(deep-1), m.want(deep-1))
	default:
		return op(api.WAnd, m.want(deep-1), m.want(deep-1), m.want(deep-1))
	}
}

// uses are words of a set of capabilities, in any order.
func (m *maker) uses(set api.Caps) []api.Use {
	var l []api.Use
	for k, word := range strings.Fields(chapterCaps) {
		if set>>k&1 == 1 {
			l = append(l, m.use(word))
		}
	}
	m.r.Shuffle(len(l), func(i, j int) { l[i], l[j] = l[j], l[i] })
	if m.bad() {
		l = append(l, m.use(pick(m.r, "foo", "echo", "flush", "ack", "until")))
	}
	return l
}

// numberIn is one of a range, or just beside it.
func (m *maker) numberIn(least, most string) uint64 {
	lo, hi := number(least).Uint64(), number(most).Uint64()
	if m.bad() {
		return pick(m.r, lo-1, hi+1, 0, 1<<63, 1<<64-1)
	}
	return pick(m.r, lo, hi, lo+(hi-lo)/2)
}

func (m *maker) core() api.CoreDecl {
	row := strings.Fields(pick(m.r, strings.Split(chapterCores, "\n")...))
	c := api.CoreDecl{Word: row[0], Pos: m.at()}
	if m.bad() {
		c.Word = pick(m.r, "foo", "retry", "Echo", "new")
	}
	if len(row) == 5 && m.r.IntN(2) == 0 || m.bad() {
		c.Has = true
		switch {
		case len(row) == 5 && row[2] == "0":
			c.Num = m.numberIn(row[2], row[3])
			c.Minus = c.Num == 0 && m.r.IntN(2) == 0 || m.bad()
		default:
			c.Minus = m.r.IntN(2) == 0
			c.Num = pick[uint64](m.r, 0, 1, 5, 1<<63-1)
			if c.Minus && m.r.IntN(4) == 0 || m.bad() {
				c.Num = 1 << 63
			}
			if m.bad() {
				c.Num++
			}
		}
	}
	set := api.Caps(m.r.IntN(1 << 10))
	if m.r.IntN(3) == 0 {
		set = 0
	}
	for !m.bad() && !chapterProper(row[0], set) {
		set &^= 1 << m.r.IntN(10)
	}
	c.Caps = m.uses(set)
	return c
}

func (m *maker) wrap() api.WrapDecl {
	row := strings.Fields(pick(m.r, strings.Split(chapterWraps, "\n")...))
	w := api.WrapDecl{Open: m.r.IntN(3) == 0, Word: row[0], Pos: m.at()}
	if m.bad() {
		w.Word = pick(m.r, "foo", "echo", "Hide", "old")
	}
	must := append(row[2:], "")[0]
	if (must == ":") != m.bad() {
		w.Sub = pick(m.r, strings.Fields(chapterShapes)...)
		if m.bad() {
			w.Sub = "foo"
		}
	}
	if len(row) >= 4 {
		for i := 2; i < len(row); i += 2 {
			w.Nums = append(w.Nums, m.numberIn(row[i], row[i+1]))
		}
	}
	if m.bad() {
		w.Nums = pick(m.r, nil, []uint64{1}, []uint64{1, 1})
	}
	if (must == "caps") != m.bad() {
		w.Caps = m.uses(api.Caps(1 + m.r.IntN(1<<10-1)))
	}
	if (must == "when") != m.bad() {
		w.When, w.Want = true, m.want(3)
	}
	return w
}

// tree is a fit tree with places of their own.
func (m *maker) tree(most int) api.Tree {
	var t api.Tree
	all := names()
	m.r.Shuffle(len(all), func(i, j int) { all[i], all[j] = all[j], all[i] })
	all = all[:m.r.IntN(most+1)]
	wraps := map[string]int{}
	for i, name := range all {
		h := api.HandlerDecl{Name: name, Pos: m.at()}
		if i > 0 && m.r.IntN(2) == 0 || m.bad() {
			h.Of = m.use(all[m.r.IntN(max(i, 1))])
			if m.bad() {
				h.Of.Name = pick(m.r, "foo", all[m.r.IntN(len(all))])
			}
		} else {
			h.Core = m.core()
		}
		n := wraps[h.Of.Name]
		for range m.r.IntN(6) {
			if n < 8 || m.bad() {
				h.Wraps = append(h.Wraps, m.wrap())
				n++
			}
		}
		wraps[name] = n
		m.rest(&h, all)
		if m.bad() {
			h.Name = pick(m.r, all...)
		}
		t.Handlers = append(t.Handlers, h)
	}
	for range m.r.IntN(4) {
		if len(all) > 0 || m.bad() {
			t.Routes = append(t.Routes, m.route(all))
		}
	}
	return t
}

// rest is a handler's inbox, drop and after.
func (m *maker) rest(h *api.HandlerDecl, all []string) {
	if h.Room = m.r.IntN(2) == 0; h.Room {
		h.Inbox = m.numberIn("1", "1024")
		if m.r.IntN(2) == 0 {
			h.Drop = m.use(pick(m.r, strings.Fields(chapterDrops)...))
		}
		if m.bad() {
			h.Drop = m.use("foo")
		}
	}
	for _, name := range all {
		if m.r.IntN(3) == 0 {
			h.After = append(h.After, m.use(name))
		}
	}
	m.r.Shuffle(len(h.After), func(i, j int) { h.After[i], h.After[j] = h.After[j], h.After[i] })
	if m.bad() {
		h.After = append(h.After, m.use(pick(m.r, append(all, "foo")...)))
	}
}

func (m *maker) route(all []string) api.RouteDecl {
	d := api.RouteDecl{Filter: m.use(pick(m.r, "x", "x/#", "+/a", "#", "$sys/+", "é\n\"")), Pos: m.at()}
	if m.bad() {
		d.Filter.Name = pick(m.r, "", "a+", "#/a", "a/b#", "\x00", "\xff")
	}
	if len(all) > 0 {
		d.To = m.use(pick(m.r, all...))
	}
	if m.bad() || len(all) == 0 {
		d.To = m.use("foo")
	}
	switch m.r.IntN(3) {
	case 0:
		d.Else = true
	case 1:
		d.When, d.Want = true, m.want(3)
	}
	return d
}

// randomPlan is a fit plan.
func randomPlan(r *rand.Rand, most int) api.Plan {
	p, f := chapterCheck((&maker{r: r}).tree(most))
	if f.Err != api.OK {
		panic(f)
	}
	return copied(p)
}

// eachPart calls f with whatever is no struct in x, and where it stands; lists that it finds are copied first.
func eachPart(path string, v reflect.Value, f func(string, reflect.Value)) {
	switch v.Kind() {
	case reflect.Struct:
		for i := range v.NumField() {
			eachPart(path+"."+v.Type().Field(i).Name, v.Field(i), f)
		}
		return
	case reflect.Slice:
		l := reflect.MakeSlice(v.Type(), v.Len(), v.Len())
		reflect.Copy(l, v)
		v.Set(l)
		for i := range v.Len() {
			eachPart(fmt.Sprintf("%s[%d]", path, i), v.Index(i), f)
		}
	}
	f(path, v)
}

// changed is a copy down to the last list, with what f makes of its parts.
func changed[T any](x T, f func(path string, v reflect.Value)) T {
	v := reflect.New(reflect.TypeOf(x)).Elem()
	v.Set(reflect.ValueOf(x))
	eachPart("", v, f)
	return v.Interface().(T)
}

func copied[T any](x T) T { return changed(x, func(string, reflect.Value) {}) }

// exactly tells whether two are the same in all (a list that is empty may be nil).
func exactly[T any](a, b T) bool {
	plain := func(_ string, v reflect.Value) {
		if v.Kind() == reflect.Slice && v.Len() == 0 {
			v.SetZero()
		}
	}
	return reflect.DeepEqual(changed(a, plain), changed(b, plain))
}

// paths are where the parts of x stand.
func paths[T any](x T) []string {
	var l []string
	changed(x, func(path string, _ reflect.Value) { l = append(l, path) })
	return l
}

// with is a copy of x with what f makes of one of its parts.
func with[T any](x T, path string, f func(reflect.Value)) T {
	return changed(x, func(p string, v reflect.Value) {
		if p == path {
			f(v)
		}
	})
}

// loaded is the plan of a text that has no fault.
func loaded(t testing.TB, s string) api.Plan {
	t.Helper()
	p, f := Load([]byte(s))
	if f != (api.Fault{}) {
		t.Fatalf("%.300q: %v", s, f)
	}
	return p
}

// refused asks of a text for a fault at the mark @, which is no part of it, and for no plan.
func refused(t testing.TB, s string, e api.Errno) {
	t.Helper()
	at := strings.Index(s, "@")
	p, f := Load([]byte(strings.Replace(s, "@", "", 1)))
	if f != (api.Fault{Pos: at, Err: e}) || !reflect.DeepEqual(p, api.Plan{}) {
		t.Errorf("%.300q: %v, %v, not %d", s, p, f, e)
	}
}
