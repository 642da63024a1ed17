package route

import (
	"math/rand/v2"
	"slices"
	"strconv"
	"strings"
	"testing"

	"conduit/api"
	"conduit/datum"
)

func newRandom(seed uint64) *rand.Rand { return rand.New(rand.NewPCG(seed, 21)) }

func pick[T any](r *rand.Rand, l ...T) T { return l[r.IntN(len(l))] }

func read(t testing.TB, s string) api.Datum {
	t.Helper()
	d, e := datum.Parse(s)
	if e != api.OK {
		t.Fatalf("datum.Parse(%s): %v", s, e)
	}
	return d
}

func on(topic string, body api.Datum) api.Msg { return api.Msg{Topic: topic, Body: body} }

func kind(k int) api.Want { return api.Want{Op: api.WKind, Num: k} }

func face(f int) api.Want { return api.Want{Op: api.WFace, Num: f} }

func op(o int, l ...api.Want) api.Want { return api.Want{Op: o, List: l} }

func anything() api.Want { return api.Want{Op: api.WAny} }

// samples is values of all kinds, of each kind one at least, and some in which others lie.
func samples(t testing.TB) (out []api.Datum) {
	t.Helper()
	for _, s := range []string{
		"nil", "5", "#7", "f3ff0000000000000", `"x"`, `@"n"`, "true", "%00ff", "[]", "(1, 2)", `!3"e"`, "&1(nil)", "&nil", "{}",
		"0", `""`, "false", "[nil]", `["x", 5]`, `(nil, "x")`, `&7("x")`, "&9(&nil)",
	} {
		out = append(out, read(t, s))
	}
	return out
}

// Which kinds have which interface: the tables of chapters 1 and 2, written out once more.
var faceKinds = [api.NumFaces][]int{
	api.FSized:    {api.KText, api.KName, api.KBytes, api.KList, api.KPair, api.KPtr, api.KNoPtr},
	api.FNamed:    {api.KName, api.KKey, api.KErr},
	api.FFailing:  {api.KErr, api.KPtr, api.KNoPtr},
	api.FOpening:  {api.KPtr, api.KNoPtr},
	api.FOrdered:  {api.KInt, api.KKey, api.KFloat, api.KText, api.KName},
	api.FAdding:   {api.KInt, api.KFloat},
	api.FLabelled: {api.KName},
	api.FMeasured: {api.KText, api.KName},
	api.FNumber:   {api.KInt, api.KFloat},
	api.FWhole:    {api.KName},
}

// chapterHolds is chapter 2's words on patterns.
func chapterHolds(w api.Want, k int) bool {
	holds := func(p api.Want) bool { return chapterHolds(p, k) }
	fails := func(p api.Want) bool { return !chapterHolds(p, k) }
	switch w.Op {
	case api.WAny:
		return k != api.KNil
	case api.WKind:
		return k == w.Num || w.Num == api.KPtr && k == api.KNoPtr
	case api.WFace:
		return slices.Contains(faceKinds[w.Num], k)
	case api.WOr:
		return slices.ContainsFunc(w.List, holds)
	case api.WAnd:
		return !slices.ContainsFunc(w.List, fails)
	}
	return fails(w.List[0])
}

// chapterHas is chapter 3's words on filters and names.
func chapterHas(filter, name string) bool {
	f, n := strings.Split(filter, "/"), strings.Split(name, "/")
	if (f[0] == "+" || f[0] == "#") && name[0] == '$' {
		return false
	}
	for i, level := range f {
		if level == "#" {
			return true
		}
		if i == len(n) || level != "+" && level != n[i] {
			return false
		}
	}
	return len(f) == len(n)
}

func isZero(w api.Want) bool { return w.Op == 0 }

func chapterAgrees(r api.Route, m api.Msg) bool {
	return chapterHas(r.Filter, m.Topic) && (isZero(r.Want) || chapterHolds(r.Want, m.Body.Kind))
}

// chapterFind is P21.1.
func chapterFind(l []api.Route, m api.Msg) api.Taken {
	for _, isElse := range []bool{false, true} {
		var places []int
		for i := range l {
			if l[i].Else == isElse && chapterAgrees(l[i], m) {
				places = append(places, i)
			}
		}
		if places != nil {
			return api.Taken{Routes: places, Else: isElse}
		}
	}
	return api.Taken{}
}

// chapterHandlers is P21.2.
func chapterHandlers(l []api.Route, m api.Msg) (out []int) {
	for _, i := range chapterFind(l, m).Routes {
		if !slices.Contains(out, l[i].Handler) {
			out = append(out, l[i].Handler)
		}
	}
	return out
}

// chapterExplain is P21.3.
func chapterExplain(l []api.Route, m api.Msg) string {
	taken := chapterFind(l, m)
	var b strings.Builder
	for i, r := range l {
		b.WriteString(strconv.Itoa(i))
		switch {
		case !chapterHas(r.Filter, m.Topic):
			b.WriteString(" topic\n")
		case !chapterAgrees(r, m):
			b.WriteString(" type\n")
		case !slices.Contains(taken.Routes, i):
			b.WriteString(" spare\n")
		case r.Else:
			b.WriteString(" else\n")
		default:
			b.WriteString(" takes\n")
		}
	}
	return b.String()
}

func same(x, y api.Taken) bool { return x.Else == y.Else && slices.Equal(x.Routes, y.Routes) }

// asSaid holds what the three calls answer against the chapter.
func asSaid(t testing.TB, l []api.Route, m api.Msg) (api.Taken, []int, string) {
	t.Helper()
	taken, handlers, lines := Find(l, m), Handlers(l, m), Explain(l, m)
	if want := chapterFind(l, m); !same(taken, want) {
		t.Fatalf("Find(%s, %s): %v, not %v", show(l), showMsg(m), taken, want)
	}
	if want := chapterHandlers(l, m); !slices.Equal(handlers, want) {
		t.Fatalf("Handlers(%s, %s): %v, not %v", show(l), showMsg(m), handlers, want)
	}
	if want := chapterExplain(l, m); lines != want {
		t.Fatalf("Explain(%s, %s): %q, not %q", show(l), showMsg(m), lines, want)
	}
	return taken, handlers, lines
}

func showMsg(m api.Msg) string {
	return strconv.Quote(m.Topic) + " " + datum.Print(m.Body)
}

func show(l []api.Route) string {
	var b strings.Builder
	for _, r := range l[:min(len(l), 20)] {
		b.WriteString(strconv.Quote(r.Filter) + " " + showWant(r.Want))
		if r.Else {
			b.WriteString(" else")
		}
		b.WriteString(" -> " + strconv.Itoa(r.Handler) + "; ")
	}
	return b.String()
}

func showWant(w api.Want) string {
	var l []string
	for _, p := range w.List {
		l = append(l, showWant(p))
	}
	return strconv.Itoa(w.Op) + "." + strconv.Itoa(w.Num) + "(" + strings.Join(l, " ") + ")"
}

var (
	someNames   = []string{"a", "b", "a/b", "a/c", "b/a", "a/b/c", "/", "/a", "a/", "//", "a//b", "$s", "$s/a", "$s/b", "$", "a/$s", "é", "A"}
	someFilters = []string{"#", "+", "+/+", "a/#", "a/+", "a/b", "a", "b", "+/b", "+/#", "/#", "/+", "+/a/#", "a/+/c", "a/b/#", "a/+/#", "$s/#", "$s/+", "$s", "+/$s", "a/", "//", "é", "A"}
)

func randomWant(r *rand.Rand, deep int) api.Want {
	n := r.IntN(8)
	if deep <= 1 {
		n %= 5
	}
	switch n {
	case 0:
		return anything()
	case 1, 2, 3:
		return kind(r.IntN(api.NumKinds))
	case 4:
		return face(r.IntN(api.NumFaces))
	case 5:
		return op(api.WNot, randomWant(r, deep-1))
	}
	l := make([]api.Want, 2+r.IntN(3))
	for i := range l {
		l[i] = randomWant(r, deep-1)
	}
	return op(pick(r, api.WOr, api.WAnd), l...)
}

func randomRoute(r *rand.Rand) api.Route {
	out := api.Route{Filter: pick(r, someFilters...), Handler: r.IntN(4), Else: r.IntN(3) == 0}
	if r.IntN(3) > 0 {
		out.Want = randomWant(r, 3)
	}
	return out
}

func randomRoutes(r *rand.Rand, most int) (l []api.Route) {
	for range r.IntN(most + 1) {
		l = append(l, randomRoute(r))
	}
	return l
}

// randomMsg has something in each field, though two of them alone play a part.
func randomMsg(r *rand.Rand, bodies []api.Datum) api.Msg {
	return api.Msg{
		Id: int64(r.Uint64()), Topic: pick(r, someNames...), Body: pick(r, bodies...), At: r.Int64N(100), Until: r.Int64N(100),
		Reply: pick(r, "", "r", "a/b"), Corr: r.Int64N(9), Prio: r.IntN(9) - 4, Hops: r.IntN(api.MaxHops + 1),
	}
}
