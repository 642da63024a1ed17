package parse

import (
	"fmt"
	"math/rand/v2"
	"reflect"
	"slices"
	"strings"
	"testing"

	"conduit/api"
)

func newRandom(seed uint64) *rand.Rand { return rand.New(rand.NewPCG(seed, 7)) }

func pick[T any](r *rand.Rand, l ...T) T { return l[r.IntN(len(l))] }

func kind(k int) api.Want { return api.Want{Op: api.WKind, Num: k} }

func face(f int) api.Want { return api.Want{Op: api.WFace, Num: f} }

func anything() api.Want { return api.Want{Op: api.WAny} }

func op(o int, l ...api.Want) api.Want { return api.Want{Op: o, List: l} }

func repeated(n int, w api.Want, around func(api.Want) api.Want) api.Want {
	for range n {
		w = around(w)
	}
	return w
}

func not(w api.Want) api.Want { return op(api.WNot, w) }

// broad is a row of so many operands.
func broad(o, n int) api.Want {
	l := make([]api.Want, n)
	for i := range l {
		l[i] = kind(i % api.NumKinds)
	}
	return op(o, l...)
}

func randomName(r *rand.Rand) string {
	return pick(r, "a", "b", "_", "Z9", "echo", "any", "int", "foo", "opening", "With", "of1", "x_y", strings.Repeat("n", 32))
}

func randomNumber(r *rand.Rand) uint64 {
	return pick(r, 0, 1, 7, 10, 1<<63, 1<<64-1, r.Uint64())
}

func randomText(r *rand.Rand) string {
	return pick(r, "", "a", "x/#", "a b", " ,", ";", "\"", "\\", "->", "( !", "é", "\x00\n\x7f\xff", "/*", "# ", "when int")
}

func randomUses(r *rand.Rand) []api.Use {
	var l []api.Use
	for range pick(r, 0, 0, 0, 1, 1, 2, 3) {
		l = append(l, api.Use{Name: randomName(r)})
	}
	return l
}

// randomWant is a pattern in which at most so many "(" and "!" are open at a time.
func randomWant(r *rand.Rand, nest int) api.Want {
	n := r.IntN(8)
	if nest < 2 {
		n = r.IntN(4)
	}
	switch n {
	case 0:
		return anything()
	case 1, 2:
		return kind(r.IntN(api.NumKinds))
	case 3:
		return face(r.IntN(api.NumFaces))
	case 4, 5:
		return not(randomWant(r, nest-2))
	}
	l := make([]api.Want, pick(r, 2, 2, 2, 3, 4))
	for i := range l {
		l[i] = randomWant(r, nest-1)
	}
	return op(pick(r, api.WOr, api.WAnd), l...)
}

// randomDeep is a pattern that comes near the most that may be open.
func randomDeep(r *rand.Rand) api.Want {
	w := randomWant(r, 3)
	for range r.IntN(50) {
		switch r.IntN(3) {
		case 0:
			w = not(w)
		case 1:
			w = op(api.WOr, kind(api.KInt), w)
		default:
			w = op(api.WAnd, w, kind(api.KInt))
		}
	}
	return w
}

func randomWhen(r *rand.Rand) (bool, api.Want) {
	if r.IntN(2) == 0 {
		return false, api.Want{}
	}
	return true, randomWant(r, r.IntN(6))
}

func randomWrap(r *rand.Rand) api.WrapDecl {
	w := api.WrapDecl{Open: r.IntN(3) == 0, Word: randomName(r), Caps: randomUses(r)}
	if r.IntN(3) == 0 {
		w.Sub = randomName(r)
	}
	for range r.IntN(3) {
		w.Nums = append(w.Nums, randomNumber(r))
	}
	w.When, w.Want = randomWhen(r)
	return w
}

func randomHandler(r *rand.Rand) api.HandlerDecl {
	h := api.HandlerDecl{Name: randomName(r), After: randomUses(r)}
	if r.IntN(3) == 0 {
		h.Of.Name = randomName(r)
	} else {
		h.Core = api.CoreDecl{Word: randomName(r), Has: r.IntN(2) == 0, Caps: randomUses(r)}
		if h.Core.Has {
			h.Core.Minus, h.Core.Num = r.IntN(2) == 0, randomNumber(r)
		}
	}
	for range r.IntN(4) {
		h.Wraps = append(h.Wraps, randomWrap(r))
	}
	if h.Room = r.IntN(2) == 0; h.Room {
		h.Inbox = randomNumber(r)
		h.Drop.Name = pick(r, "", randomName(r))
	}
	return h
}

func randomRoute(r *rand.Rand) api.RouteDecl {
	d := api.RouteDecl{Filter: api.Use{Name: randomText(r)}, To: api.Use{Name: randomName(r)}}
	if d.Else = r.IntN(4) == 0; !d.Else {
		d.When, d.Want = randomWhen(r)
	}
	return d
}

// randomTree is a fit tree without places.
func randomTree(r *rand.Rand, most int) api.Tree {
	var t api.Tree
	for range r.IntN(most + 1) {
		t.Handlers = append(t.Handlers, randomHandler(r))
	}
	for range r.IntN(most + 1) {
		t.Routes = append(t.Routes, randomRoute(r))
	}
	return t
}

// chapterPrint is P7.3 of a fit tree; of others it writes what it can.
func chapterPrint(t api.Tree) string {
	s := ""
	for _, h := range t.Handlers {
		s += chapterHandler(h)
	}
	for _, d := range t.Routes {
		s += "route " + chapterQuote(d.Filter.Name)
		if d.When {
			s += " when " + chapterText(d.Want)
		}
		if d.Else {
			s += " else"
		}
		s += " -> " + d.To.Name + ";\n"
	}
	return s
}

func chapterHandler(h api.HandlerDecl) string {
	s := "handler " + h.Name + " ="
	if h.Of.Name != "" {
		s += " of " + h.Of.Name
	} else {
		s += " " + h.Core.Word
		if h.Core.Has {
			s += " " + map[bool]string{true: "-"}[h.Core.Minus] + fmt.Sprint(h.Core.Num)
		}
		s += chapterNames(" caps ", h.Core.Caps)
	}
	for _, w := range h.Wraps {
		s += " with " + map[bool]string{true: "open "}[w.Open] + w.Word
		if w.Sub != "" {
			s += ":" + w.Sub
		}
		for _, n := range w.Nums {
			s += fmt.Sprintf(" %d", n)
		}
		s += chapterNames(" caps ", w.Caps)
		if w.When {
			s += " when " + chapterText(w.Want)
		}
	}
	if h.Room {
		s += fmt.Sprintf(" inbox %d", h.Inbox)
		if h.Drop.Name != "" {
			s += " drop " + h.Drop.Name
		}
	}
	return s + chapterNames(" after ", h.After) + ";\n"
}

func chapterNames(lead string, l []api.Use) string {
	if len(l) == 0 {
		return ""
	}
	var names []string
	for _, u := range l {
		names = append(names, u.Name)
	}
	return lead + strings.Join(names, ", ")
}

func chapterQuote(s string) string {
	var out strings.Builder
	for i := range len(s) {
		switch {
		case s[i] == 34 || s[i] == 92:
			out.WriteString(`\` + s[i:i+1])
		case s[i] < 32 || s[i] > 126:
			fmt.Fprintf(&out, `\x%02x`, s[i])
		default:
			out.WriteByte(s[i])
		}
	}
	return `"` + out.String() + `"`
}

// binds is how strongly what stands in a pattern is bound: a row within one that binds as strongly or more needs parentheses.
func binds(o int) int {
	switch o {
	case api.WOr:
		return 1
	case api.WAnd:
		return 2
	case api.WNot:
		return 3
	}
	return 0
}

func chapterText(w api.Want) string {
	at := func(words string, n int) string {
		if l := strings.Split(words, ", "); n >= 0 && n < len(l) {
			return l[n]
		}
		return "?"
	}
	var parts []string
	for _, p := range w.List {
		s := chapterText(p)
		if (p.Op == api.WOr || p.Op == api.WAnd) && binds(p.Op) <= binds(w.Op) {
			s = "(" + s + ")"
		}
		parts = append(parts, s)
	}
	switch w.Op {
	case api.WAny:
		return "any"
	case api.WKind:
		return at(chapterKinds, w.Num)
	case api.WFace:
		return at(chapterFaces, w.Num)
	case api.WOr:
		return strings.Join(parts, " | ")
	case api.WAnd:
		return strings.Join(parts, " & ")
	case api.WNot:
		return "!" + strings.Join(parts, "")
	}
	return "?"
}

// source writes a tree in one of many ways, and its places into the tree.
type source struct {
	r    *rand.Rand
	text string
	last string
}

func wordByte(b byte) bool {
	return b == '_' || b >= '0' && b <= '9' || b >= 'a' && b <= 'z' || b >= 'A' && b <= 'Z'
}

// put writes a token behind a gap, which is there at least where the two would be one without it, and tells its place.
func (s *source) put(token string) int {
	gap := pick(s.r, "", "", " ", " ", "\n", "\t", "\r", "  ", "# with \"x\n", "/**/", "/* ; */ ")
	if gap == "" && s.last != "" && wordByte(s.last[len(s.last)-1]) && wordByte(token[0]) {
		gap = " "
	}
	s.text += gap
	at := len(s.text)
	s.text += token
	s.last = token
	return at
}

// all writes tokens and tells the last one's place.
func (s *source) all(tokens ...string) int {
	at := 0
	for _, t := range tokens {
		at = s.put(t)
	}
	return at
}

func (s *source) names(word string, l []api.Use) {
	for i := range l {
		s.put(word)
		l[i].Pos = s.put(l[i].Name)
		word = ","
	}
}

func (s *source) want(w api.Want, around int) {
	row := w.Op == api.WOr || w.Op == api.WAnd
	in := row && binds(w.Op) <= binds(around)
	for in || s.r.IntN(8) == 0 {
		s.put("(")
		defer func() { s.put(")") }()
		in = false
	}
	switch {
	case w.Op == api.WNot:
		s.put("!")
		s.want(w.List[0], w.Op)
	case row:
		for i, p := range w.List {
			if i > 0 {
				s.put(map[int]string{api.WOr: "|", api.WAnd: "&"}[w.Op])
			}
			s.want(p, w.Op)
		}
	default:
		s.put(chapterText(w))
	}
}

func (s *source) handler(h *api.HandlerDecl) {
	h.Pos = s.put("handler")
	s.all(h.Name, "=")
	if h.Of.Name != "" {
		h.Of.Pos = s.all("of", h.Of.Name)
	} else {
		s.core(&h.Core)
	}
	for i := range h.Wraps {
		s.wrap(&h.Wraps[i])
	}
	if h.Room {
		s.all("inbox", fmt.Sprint(h.Inbox))
		if h.Drop.Name != "" {
			h.Drop.Pos = s.all("drop", h.Drop.Name)
		}
	}
	s.names("after", h.After)
	s.put(";")
}

func (s *source) core(c *api.CoreDecl) {
	c.Pos = s.put(c.Word)
	if c.Minus {
		s.put("-")
	}
	if c.Has {
		s.put(fmt.Sprint(c.Num))
	}
	s.names("caps", c.Caps)
}

func (s *source) wrap(w *api.WrapDecl) {
	s.put("with")
	if w.Open {
		s.put("open")
	}
	w.Pos = s.put(w.Word)
	if w.Sub != "" {
		s.all(":", w.Sub)
	}
	for _, n := range w.Nums {
		s.put(fmt.Sprint(n))
	}
	s.names("caps", w.Caps)
	if w.When {
		s.put("when")
		s.want(w.Want, 0)
	}
}

func (s *source) route(d *api.RouteDecl) {
	d.Pos = s.put("route")
	d.Filter.Pos = s.put(s.quoted(d.Filter.Name))
	if d.When {
		s.put("when")
		s.want(d.Want, 0)
	}
	if d.Else {
		s.put("else")
	}
	d.To.Pos = s.all("->", d.To.Name)
	s.put(";")
}

// quoted is a text, some bytes of which are written by their digits though they need not be.
func (s *source) quoted(text string) string {
	out := `"`
	for i := range len(text) {
		if s.r.IntN(5) == 0 {
			out += fmt.Sprintf(pick(s.r, `\x%02x`, `\x%02X`), text[i])
		} else {
			q := chapterQuote(text[i : i+1])
			out += q[1 : len(q)-1]
		}
	}
	return out + `"`
}

// sourceOf is a text of a tree, handlers and routes mixed; the tree has its places then.
func sourceOf(r *rand.Rand, t api.Tree) string {
	s := &source{r: r}
	h, d := 0, 0
	for h < len(t.Handlers) || d < len(t.Routes) {
		if d == len(t.Routes) || h < len(t.Handlers) && r.IntN(2) == 0 {
			s.handler(&t.Handlers[h])
			h++
		} else {
			s.route(&t.Routes[d])
			d++
		}
	}
	return s.text + pick(r, "", " ", "\n", "# end", "/* */")
}

// copyOf is a copy down to the last list, by change; at each place of it that is no list or struct, change may alter what stands there.
func copyOf[T any](x T, change func(path string, v reflect.Value)) T {
	v := reflect.New(reflect.TypeOf(x)).Elem()
	v.Set(reflect.ValueOf(x))
	copyInto("", v, change)
	return v.Interface().(T)
}

func copyInto(path string, v reflect.Value, change func(string, reflect.Value)) {
	switch v.Kind() {
	case reflect.Struct:
		for i := range v.NumField() {
			copyInto(path+"."+v.Type().Field(i).Name, v.Field(i), change)
		}
	case reflect.Slice:
		l := reflect.MakeSlice(v.Type(), v.Len(), v.Len())
		reflect.Copy(l, v)
		v.Set(l)
		for i := range v.Len() {
			copyInto(fmt.Sprintf("%s[%d]", path, i), v.Index(i), change)
		}
		change(path, v)
	default:
		change(path, v)
	}
}

// plain is a tree without places, and with nil for each empty list.
func plain[T any](x T) T {
	return copyOf(x, func(path string, v reflect.Value) {
		if isPlace(path) || v.Kind() == reflect.Slice && v.Len() == 0 {
			v.SetZero()
		}
	})
}

func isPlace(path string) bool { return strings.HasSuffix(path, ".Pos") }

// exactly tells whether two are the same, places too (a list that is empty may be nil).
func exactly[T any](a, b T) bool {
	none := func(path string, v reflect.Value) {
		if v.Kind() == reflect.Slice && v.Len() == 0 {
			v.SetZero()
		}
	}
	return reflect.DeepEqual(copyOf(a, none), copyOf(b, none))
}

// taken reads a text that has no fault.
func taken(t testing.TB, s string) api.Tree {
	t.Helper()
	tree, f := Parse([]byte(s))
	if f != (api.Fault{}) {
		t.Fatalf("%.300q: %v", s, f)
	}
	return tree
}

// refused asks for a fault, and no tree.
func refused(t testing.TB, s string, pos int, e api.Errno) {
	t.Helper()
	tree, f := Parse([]byte(s))
	if f.Pos != pos || f.Err != e || !reflect.DeepEqual(tree, api.Tree{}) {
		t.Errorf("%.300q: %v, %v, not %d at %d", s, tree, f, e, pos)
	}
}

// asked holds what Parse tells of a text's faults against the chapter's grammar.
func asked(t testing.TB, s string) (api.Tree, api.Fault) {
	t.Helper()
	tree, f := Parse([]byte(s))
	if want := chapterFault(s, "config"); f != want {
		t.Fatalf("%q: %v, not %v", s, f, want)
	}
	if f.Err != api.OK && !reflect.DeepEqual(tree, api.Tree{}) {
		t.Fatalf("%q: %v beside %v", s, tree, f)
	}
	return tree, f
}

// every is all rows of so many pieces.
func every(pieces []string, n int) [][]string {
	rows := [][]string{nil}
	for range n {
		var longer [][]string
		for _, row := range rows {
			for _, p := range pieces {
				longer = append(longer, append(slices.Clone(row), p))
			}
		}
		rows = longer
	}
	return rows
}
