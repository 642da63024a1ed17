package check

import (
	"fmt"
	"reflect"
	"slices"
	"strings"
	"testing"

	"conduit/api"
	"conduit/parse"
)

// P8.1: each core by its word, without a number and with those at the ends of its range.
func TestCores(t *testing.T) {
	for line := range strings.Lines(chapterCores) {
		row := strings.Fields(line)
		op := int(number(row[1]).Int64())
		if len(row) == 2 {
			if c := loaded(t, "handler a = "+row[0]+";").Handlers[0].Chain.Core; c != (api.Core{Op: op}) {
				t.Error(row, c)
			}
			for _, n := range []string{"0", "1", "-0", "-1", "18446744073709551615"} {
				refused(t, "handler a = @"+row[0]+" "+n+";", api.ErrRange)
			}
			continue
		}
		for said, want := range map[string]string{"": row[4], row[2]: row[2], row[3]: row[3], "0": "0", "-0": "0", "7": "7"} {
			c := loaded(t, "handler a = "+row[0]+" "+said+";").Handlers[0].Chain.Core
			if c != (api.Core{Op: op, Num: number(want).Int64()}) {
				t.Error(row, said, c)
			}
		}
		below := number(row[2])
		above := number(row[3])
		for _, n := range []string{below.Sub(below, number("1")).String(), above.Add(above, number("1")).String(), "18446744073709551615", "-18446744073709551615"} {
			refused(t, "handler a = @"+row[0]+" "+n+";", api.ErrRange)
		}
	}
	for _, word := range []string{"foo", "Echo", "retry", "open1", "echo_", "a", "new", "map", "flush"} {
		refused(t, "handler a = @"+word+";", api.ErrUnknown)
	}
}

// P8.1: which capabilities which core may have: all sets of each.
func TestCoreCaps(t *testing.T) {
	words := strings.Fields(chapterCaps)
	for line := range strings.Lines(chapterCores) {
		word := strings.Fields(line)[0]
		for set := range api.Caps(1 << 10) {
			d := api.HandlerDecl{Name: "a", Core: api.CoreDecl{Word: word, Pos: 5}}
			for k, w := range words {
				if set>>k&1 == 1 {
					d.Core.Caps = append(d.Core.Caps, api.Use{Name: w, Pos: 10 + k})
				}
			}
			p, f := Check(api.Tree{Handlers: []api.HandlerDecl{d}})
			if !chapterProper(word, set) {
				if f != (api.Fault{Pos: 5, Err: api.ErrCaps}) || !reflect.DeepEqual(p, api.Plan{}) {
					t.Fatal(word, set, p, f)
				}
			} else if f != (api.Fault{}) || p.Handlers[0].Chain.Core.Caps != set {
				t.Fatal(word, set, p, f)
			}
		}
	}
	for _, s := range []string{"echo caps save", "size caps save, load", "fail caps save", "nth caps flush, load", "count caps load", "count caps batch, save", "store caps ack", "sum caps reset", "less caps ack, flush"} {
		refused(t, "handler a = @"+s+";", api.ErrCaps)
	}
	for _, s := range []string{"count", "store", "sum", "less"} {
		loaded(t, "handler a = "+s+" caps load, save;")
	}
	refused(t, "handler a = echo caps @foo;", api.ErrUnknown)
	refused(t, "handler a = echo caps flush, @Flush;", api.ErrUnknown)
	refused(t, "handler a = echo caps ping, flush, @ping;", api.ErrTwice)
}

// P8.1: each wrapper with its numbers at the ends of their ranges, and beside them.
func TestWrapNumbers(t *testing.T) {
	for line := range strings.Lines(chapterWraps) {
		row := strings.Fields(line)
		if len(row) < 4 {
			continue
		}
		op := int(number(row[1]).Int64())
		goods, bads := [][]string{{}}, []string{"", "1 1"}
		if len(row) == 6 {
			bads = []string{"", "1"}
		}
		for i := 2; i < len(row); i += 2 {
			var longer [][]string
			for _, l := range goods {
				for _, n := range []string{row[i], row[i+1], fmt.Sprint(number(row[i]).Int64() + 1)} {
					longer = append(longer, append(slices.Clone(l), n))
				}
				above := number(row[i+1])
				beside := []string{above.Add(above, number("1")).String(), "9223372036854775808", "18446744073709551615"}
				if row[i] != "0" {
					beside = append(beside, fmt.Sprint(number(row[i]).Int64()-1))
				}
				for _, n := range beside {
					bad := append(slices.Clone(l), n)
					if len(row) == 6 && i == 2 {
						bad = append(bad, row[4])
					}
					bads = append(bads, strings.Join(bad, " "))
				}
			}
			goods = longer
		}
		for _, l := range goods {
			w := api.Wrap{Op: op, A: number(l[0]).Int64()}
			if len(l) == 2 {
				w.B = number(l[1]).Int64()
			}
			p := loaded(t, "handler a = echo with "+row[0]+" "+strings.Join(l, " ")+";")
			if got := p.Handlers[0].Chain.Wraps; !exactly(got, []api.Wrap{w}) {
				t.Error(row[0], l, got)
			}
		}
		for _, s := range bads {
			refused(t, "handler a = echo with @"+row[0]+" "+s+";", api.ErrRange)
		}
	}
}

// P8.1: each wrapper with each thing that it may have or not: all of them.
func TestWrapRows(t *testing.T) {
	things := func(bit int, thing string, among int) string {
		if among>>bit&1 == 1 {
			return thing
		}
		return ""
	}
	for _, line := range append(strings.Split(chapterWraps, "\n"), "foo 0", "echo 0", "Map 0", "maps 0") {
		row := strings.Fields(line)
		word := row[0]
		good := 0
		for has := range 1 << 5 {
			s := word + things(0, ":not", has) + things(1, " 1", has) + things(2, " 1", has) + things(3, " caps flush", has) + things(4, " when int", has)
			tree, f := parse.Parse([]byte("handler a = echo with " + s + ";"))
			if f.Err != api.OK {
				t.Fatal(s, f)
			}
			want, fault := chapterCheck(tree)
			p, f := Check(tree)
			if f != fault || !exactly(p, want) {
				t.Errorf("%s: %v %v, not %v", s, p, f, fault)
			}
			if f.Err == api.OK {
				good++
			} else if f.Pos != 22 {
				t.Errorf("%s: %v", s, f)
			}
		}
		// A number stands in either of two places, so that a row of one comes twice.
		if want := map[int]int{2: 1, 3: 1, 4: 2, 6: 1}[len(row)]; good != want && row[1] != "0" || row[1] == "0" && good > 0 {
			t.Errorf("%s: taken %d times", word, good)
		}
	}
}

// P8.1: a map's words, and those that are none.
func TestShapes(t *testing.T) {
	for i, word := range strings.Fields(chapterShapes) {
		p := loaded(t, "handler a = echo with open map:"+word+";")
		if got := p.Handlers[0].Chain.Wraps; !exactly(got, []api.Wrap{{Op: api.WrMap, A: int64(i + 1), Open: true}}) {
			t.Error(word, got)
		}
	}
	for _, word := range []string{"foo", "Double", "map", "text", "open1", "none", "flush"} {
		refused(t, "handler a = echo with @map:"+word+";", api.ErrUnknown)
	}
	for line := range strings.Lines(chapterWraps) {
		if word := strings.Fields(line)[0]; word != "map" {
			refused(t, "handler a = echo with @"+word+":double;", api.ErrUnknown)
		}
	}
}

// P8.1: a wrapper's capabilities need not be proper, and are any.
func TestWrapCaps(t *testing.T) {
	m := &maker{r: newRandom(1)}
	for _, word := range []string{"mask", "give"} {
		for set := api.Caps(1); set < 1<<10; set++ {
			d := api.HandlerDecl{Name: "a", Core: api.CoreDecl{Word: "echo"}, Wraps: []api.WrapDecl{{Word: word, Caps: m.uses(set)}}}
			p, f := Check(api.Tree{Handlers: []api.HandlerDecl{d}})
			if f.Err != api.OK || p.Handlers[0].Chain.Wraps[0].Caps != set {
				t.Fatal(word, set, p, f)
			}
		}
		refused(t, "handler a = echo with "+word+" caps batch, @foo;", api.ErrUnknown)
		refused(t, "handler a = echo with "+word+" caps batch, ack, @batch;", api.ErrTwice)
	}
	// Words are looked at ahead of whether they may stand there.
	refused(t, "handler a = echo with hide caps @foo;", api.ErrUnknown)
	refused(t, "handler a = echo with hide caps ping, @ping;", api.ErrTwice)
	refused(t, "handler a = echo with @hide caps ping;", api.ErrCaps)
}

// P8.1: names that are declared twice, and too many of them.
func TestHandlersNames(t *testing.T) {
	declared := func(n int) string {
		s := ""
		for i := range n {
			s += fmt.Sprintf("handler h%d = echo; ", i)
		}
		return s
	}
	if p := loaded(t, declared(64)); len(p.Handlers) != 64 || p.Handlers[63].Name != "h63" {
		t.Error(len(p.Handlers))
	}
	refused(t, declared(64)+"@handler h64 = echo;", api.ErrMany)
	refused(t, declared(64)+"@handler h64 = echo; handler h65 = echo;", api.ErrMany)
	refused(t, declared(64)+"@handler h0 = echo;", api.ErrMany)
	refused(t, declared(63)+"@handler h62 = echo; handler x = echo; handler y = echo;", api.ErrTwice)
	refused(t, "handler a = echo; @handler a = echo;", api.ErrTwice)
	// Names come ahead of all else.
	refused(t, `route "" -> x; handler a = foo; handler b = of c; @handler a = bar;`, api.ErrTwice)
	refused(t, "handler x = foo; "+declared(63)+"@handler y = echo;", api.ErrMany)
	// A name that differs by the case of a letter is another one.
	loaded(t, "handler a = echo; handler A = echo;")
}

// P8.1: the chain of another handler, and wrappers around it.
func TestOf(t *testing.T) {
	p := loaded(t, "handler a = store 5 caps save with retry 3 with filter when int | text inbox 7 drop old after b; handler b = of a; handler c = of b with hide with open map:not;")
	a, b, c := p.Handlers[0], p.Handlers[1], p.Handlers[2]
	if !exactly(a.Chain, b.Chain) || b.Inbox != 64 || b.Drop != api.DropNew || len(b.After) != 0 {
		t.Error(b)
	}
	want := copied(a.Chain)
	want.Wraps = append(want.Wraps, api.Wrap{Op: api.WrHide}, api.Wrap{Op: api.WrMap, A: api.MapNot, Open: true})
	if len(a.Chain.Wraps) != 2 || !exactly(c.Chain, want) {
		t.Error(c)
	}
	refused(t, "handler a = of @a;", api.ErrUnknown)
	refused(t, "handler a = of @b;", api.ErrUnknown)
	refused(t, "handler a = of @b; handler b = of a;", api.ErrUnknown)
	refused(t, "handler a = of @echo;", api.ErrUnknown)
	loaded(t, "handler echo = echo; handler a = of echo;")
}

// P8.1: at most eight wrappers, those of what a handler is of among them.
func TestWrapsMany(t *testing.T) {
	wraps := func(n int) string { return strings.Repeat(" with through", n) }
	loaded(t, "handler a = echo"+wraps(8)+";")
	refused(t, "handler a = echo"+wraps(8)+" with @hide;", api.ErrMany)
	refused(t, "handler a = echo"+wraps(8)+" with open @foo:bar 1 caps foo when int with hide;", api.ErrMany)
	loaded(t, "handler a = echo"+wraps(5)+"; handler b = of a"+wraps(3)+"; handler c = of b;")
	refused(t, "handler a = echo"+wraps(5)+"; handler b = of a"+wraps(3)+" with @hide;", api.ErrMany)
	refused(t, "handler a = echo"+wraps(8)+"; handler b = of a; handler c = of b with @hide;", api.ErrMany)
	// The ninth of a handler is looked at behind the eighth.
	refused(t, "handler a = echo"+wraps(7)+" with @foo with hide;", api.ErrUnknown)
}

// P8.1: inboxes, drops and what a handler comes after.
func TestRest(t *testing.T) {
	for s, want := range map[string]api.Named{
		"":                               {Inbox: 64},
		"inbox 1":                        {Inbox: 1},
		"inbox 1024":                     {Inbox: 1024},
		"inbox 64 drop new":              {Inbox: 64},
		"inbox 2 drop old":               {Inbox: 2, Drop: 1},
		"inbox 2 drop none":              {Inbox: 2, Drop: 2},
		"after a":                        {Inbox: 64, After: []int{0}},
		"after b, a":                     {Inbox: 64, After: []int{1, 0}},
		"inbox 3 after b":                {Inbox: 3, After: []int{1}},
		"inbox 3 drop old after b, x, a": {Inbox: 3, Drop: 1, After: []int{1, 2, 0}},
	} {
		want.Name, want.Chain.Core.Op = "a", api.CoEcho
		if h := loaded(t, "handler a = echo "+s+"; handler b = echo; handler x = echo;").Handlers[0]; !exactly(h, want) {
			t.Error(s, h)
		}
	}
	for _, n := range []string{"0", "1025", "9223372036854775808", "18446744073709551615", "4294967297"} {
		refused(t, "handler b = echo; @handler a = echo inbox "+n+" drop foo after foo;", api.ErrRange)
	}
	for _, word := range []string{"foo", "New", "echo", "a", "newest"} {
		refused(t, "handler a = echo inbox 5 drop @"+word+" after foo;", api.ErrUnknown)
	}
	refused(t, "handler a = echo after @b;", api.ErrUnknown)
	refused(t, "handler a = echo after a, @b, a;", api.ErrUnknown)
	refused(t, "handler a = echo after a, @a, b;", api.ErrTwice)
	refused(t, "handler a = echo after a, b, @a; handler b = echo;", api.ErrTwice)
}

// P8.1: routes, their filters and where they lead.
func TestRoutes(t *testing.T) {
	p := loaded(t, `route "x/#" -> b; handler a = echo; route "+" when int & !text -> a; handler b = echo; route "#" else -> b; route "x/#" -> b;`)
	want := []api.Route{
		{Filter: "x/#", Handler: 1},
		{Filter: "+", Want: op(api.WAnd, kind(api.KInt), op(api.WNot, kind(api.KText)))},
		{Filter: "#", Handler: 1, Else: true},
		{Filter: "x/#", Handler: 1},
	}
	if !exactly(p.Routes, want) {
		t.Error(p.Routes)
	}
	for _, f := range []string{"", "a+", "#/a", "a#", `\x00`, `\xff`, "a/+b"} {
		refused(t, `handler a = echo; route @"`+f+`" -> foo;`, api.ErrFilter)
	}
	refused(t, `handler a = echo; route "a" -> @b;`, api.ErrUnknown)
	refused(t, `route "a" -> @a;`, api.ErrUnknown)
	many := "handler a = echo;" + strings.Repeat(`route "a" -> a;`, 128)
	if p := loaded(t, many); len(p.Routes) != 128 {
		t.Error(len(p.Routes))
	}
	refused(t, many+`@route "a+" -> foo;`, api.ErrMany)
	// Handlers come ahead of routes, wherever they stand.
	refused(t, `route "a+" -> foo; handler a = @foo;`, api.ErrUnknown)
	refused(t, many+`route "a" -> a; handler b = echo after b, @b;`, api.ErrTwice)
	refused(t, `handler a = echo; route "a" -> @foo; route "a+" -> a;`, api.ErrUnknown)
}

// P8.1: of two things that are wrong in a handler the one that is looked at first is told.
func TestOrderInAHandler(t *testing.T) {
	for _, s := range []struct {
		text string
		err  api.Errno
	}{
		{"handler a = @foo 3 caps foo with foo;", api.ErrUnknown},
		{"handler a = @echo 3 caps foo with foo;", api.ErrRange},
		{"handler a = echo caps batch, @foo, flush, flush with foo;", api.ErrUnknown},
		{"handler a = echo caps batch, @batch, foo;", api.ErrTwice},
		{"handler a = @echo caps batch with foo;", api.ErrCaps},
		{"handler a = of @b with foo;", api.ErrUnknown},
		{"handler a = echo with @retry:double 17 caps foo when int;", api.ErrUnknown},
		{"handler a = echo with @map 17 caps foo when int;", api.ErrUnknown},
		{"handler a = echo with @map:double 1 caps foo when int;", api.ErrRange},
		{"handler a = echo with @retry 17 caps foo when int;", api.ErrRange},
		{"handler a = echo with @mask 17;", api.ErrRange},
		{"handler a = echo with retry 1 caps @foo when int;", api.ErrUnknown},
		{"handler a = echo with @retry 1 caps ping when int;", api.ErrCaps},
		{"handler a = echo with @mask when int;", api.ErrCaps},
		{"handler a = echo with @mask caps ping when int;", api.ErrRange},
		{"handler a = echo with @filter caps ping;", api.ErrCaps},
		{"handler a = echo with @filter;", api.ErrRange},
		{"handler a = echo with @retry 1 when int with foo;", api.ErrRange},
		{"handler a = echo with @foo inbox 0;", api.ErrUnknown},
		{"@handler a = echo inbox 0 drop foo;", api.ErrRange},
		{"handler a = echo inbox 1 drop @foo after foo;", api.ErrUnknown},
		{"handler a = echo after @foo; handler b = foo;", api.ErrUnknown},
		{"handler a = @foo; handler b = of c;", api.ErrUnknown},
	} {
		refused(t, s.text, s.err)
	}
}

// P8.1: of any fit tree, whatever its places are.
func TestCheckRandomTrees(t *testing.T) {
	told := map[api.Errno]int{}
	for seed, wrong := range []int{0, 15, 60, 200} {
		m := &maker{r: newRandom(uint64(10 + seed)), wrong: wrong}
		for range 2000 {
			tree := m.tree(12)
			if !parse.Fit(tree) {
				t.Fatalf("%+v is not fit", tree)
			}
			want, fault := chapterCheck(tree)
			p, f := Check(tree)
			if f != fault || !exactly(p, want) {
				t.Fatalf("%+v: %+v %v, not %+v %v", tree, p, f, want, fault)
			}
			told[f.Err]++
		}
	}
	for _, e := range []api.Errno{api.OK, api.ErrTwice, api.ErrUnknown, api.ErrRange, api.ErrMany, api.ErrCaps, api.ErrFilter} {
		if told[e] < 5 {
			t.Errorf("%d is told %d times", e, told[e])
		}
	}
}

// P8.2: a text's own fault comes first; else it is as of its tree.
func TestLoad(t *testing.T) {
	for s, e := range map[string]api.Errno{
		"handler a = foo; @/*":                            api.ErrComment,
		"handler a = foo; @01":                            api.ErrInt,
		"handler a = foo; @of":                            api.ErrSyntax,
		`handler a = foo; route "" when @foo -> a;`:       api.ErrWant,
		"handler a = foo with @: x;":                      api.ErrSyntax,
		"handler a = @foo" + strings.Repeat(" ", 9) + ";": api.ErrUnknown,
		"handler a = @open;":                              api.ErrSyntax,
		"handler a = echo caps @open;":                    api.ErrSyntax,
		"handler a = echo with retry @-1;":                api.ErrSyntax,
		"handler a = echo inbox @-1;":                     api.ErrSyntax,
		"handler a = echo @drop old;":                     api.ErrSyntax,
		"@" + strings.Repeat(" ", 65537):                  api.ErrLong,
	} {
		refused(t, s, e)
	}
	for _, s := range []string{"", " # nothing\n"} {
		if p := loaded(t, s); !exactly(p, api.Plan{}) {
			t.Error(p)
		}
	}
	m := &maker{r: newRandom(2), wrong: 60}
	for range 2000 {
		s := parse.Print(m.tree(5))
		if m.r.IntN(3) == 0 {
			at := m.r.IntN(len(s) + 1)
			s = s[:at] + pick(m.r, "", " ", ";", "!", "with", "0") + s[min(len(s), at+m.r.IntN(3)):]
		}
		tree, fault := parse.Parse([]byte(s))
		var want api.Plan
		if fault.Err == api.OK {
			want, fault = chapterCheck(tree)
		}
		if p, f := Load([]byte(s)); f != fault || !exactly(p, want) {
			t.Fatalf("%s: %v %v, not %v", s, p, f, fault)
		}
	}
}
