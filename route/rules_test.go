package route

import (
	"math"
	"slices"
	"strings"
	"testing"
	"unsafe"

	"conduit/api"
	"conduit/datum"
	"conduit/value"
	"conduit/want"
)

// 0.1: no list and no message makes a call panic, such as are not fit neither.
func TestNeverPanics(t *testing.T) {
	texts := []string{"", "a", "+", "#", "a/#/b", "\x00", "\xff", "a+", strings.Repeat("a", api.MaxBytes+1)}
	wants := []api.Want{{Num: 5}, {Op: -1}, {Op: api.WKind, Num: -1}, {Op: api.WKind, Num: 99}, {Op: api.WFace, Num: -1}, {Op: api.WFace, Num: 99}, {Op: api.WOr}, {Op: api.WAnd}, {Op: api.WNot}, {Op: 99}, {List: make([]api.Want, 2)}}
	for _, name := range texts {
		for _, k := range []int{math.MinInt, -1, 0, api.KPair, api.KPtr, api.NumKinds, math.MaxInt} {
			var l []api.Route
			for i, w := range wants {
				for _, f := range texts {
					l = append(l, api.Route{Filter: f, Want: w, Handler: math.MinInt + i, Else: i%2 == 0})
				}
			}
			m := on(name, api.Datum{Kind: k})
			Find(l, m)
			Handlers(l, m)
			Explain(l, m)
		}
	}
}

func sameWant(x, y api.Want) bool {
	return x.Op == y.Op && x.Num == y.Num && slices.EqualFunc(x.List, y.List, sameWant)
}

func sameRoute(x, y api.Route) bool {
	return x.Filter == y.Filter && x.Handler == y.Handler && x.Else == y.Else && sameWant(x.Want, y.Want)
}

var spareWant = api.Want{Op: api.WFace, Num: 77}

var spareRoute = api.Route{Filter: "#", Handler: 77}

// roomyWant is a pattern whose lists stand in memory with another one behind.
func roomyWant(w api.Want) api.Want {
	var l []api.Want
	for _, p := range w.List {
		l = append(l, roomyWant(p))
	}
	w.List = append(slices.Clip(l), spareWant)[:len(l)]
	return w
}

// roomy is routes in memory with another one behind, that would take every message.
func roomy(l []api.Route) (out []api.Route) {
	for _, r := range l {
		r.Want = roomyWant(r.Want)
		out = append(out, r)
	}
	return append(slices.Clip(out), spareRoute)[:len(l)]
}

func wantSpared(w api.Want) bool {
	return sameWant(w.List[:len(w.List)+1][len(w.List)], spareWant) && !slices.ContainsFunc(w.List, func(p api.Want) bool { return !wantSpared(p) })
}

// spared tells whether nothing was written since, in the spare room neither.
func spared(got, made []api.Route) bool {
	wants := !slices.ContainsFunc(got, func(r api.Route) bool { return !wantSpared(r.Want) })
	return wants && slices.EqualFunc(got, made, sameRoute) && sameRoute(got[:len(got)+1][len(got)], spareRoute)
}

// spoil writes over routes and spare room.
func spoil(l []api.Route) {
	for i := range l[:cap(l)] {
		spoilWant(l[:cap(l)][i].Want.List)
		l[:cap(l)][i] = api.Route{Filter: "spoilt", Handler: -5}
	}
}

func spoilWant(l []api.Want) {
	for i := range l[:cap(l)] {
		spoilWant(l[:cap(l)][i].List)
		l[:cap(l)][i] = api.Want{Op: -1}
	}
}

// 0.3, 0.4, 0.8: what is handed in stays as it is, spare room too, which plays no part; it is not kept, and what was answered does not hang on it, nor another answer on that.
func TestHandedIn(t *testing.T) {
	r := newRandom(5)
	bodies := samples(t)
	for range 5000 {
		l, m := randomRoutes(r, 8), randomMsg(r, bodies)
		in, msg := roomy(l), m
		msg.Body = value.Copy(m.Body)
		taken, handlers, lines := asSaid(t, in, msg)
		if !spared(in, l) || !datum.Same(msg.Body, m.Body) {
			t.Fatalf("%s, %s: changed", show(l), showMsg(m))
		}
		spoil(in)
		if want := chapterFind(l, m); !same(taken, want) || !slices.Equal(handlers, chapterHandlers(l, m)) || lines != chapterExplain(l, m) {
			t.Fatalf("%s, %s: what was answered changed with what was handed in", show(l), showMsg(m))
		}
		for _, out := range [][]int{taken.Routes, handlers} {
			for i := range out[:cap(out)] {
				out[:cap(out)][i] = -7
			}
		}
		asSaid(t, l, m)
	}
}

// 0.4: what is told once and what is told once more share no memory.
func TestMemoryOfItsOwn(t *testing.T) {
	l, m := chapterRoutes(), on("a/b", read(t, `"x"`))
	for _, ask := range []func() []int{func() []int { return Find(l, m).Routes }, func() []int { return Handlers(l, m) }} {
		if x, y := ask(), ask(); unsafe.SliceData(x) == unsafe.SliceData(y) {
			t.Error("two answers share memory")
		}
	}
}

// 0.8: lists without places, nil or not, are the same; so is a pattern that is zero but for such a list.
func TestNilAndEmpty(t *testing.T) {
	for _, l := range [][]api.Route{nil, {}, make([]api.Route, 0, 3), chapterRoutes()[:0]} {
		if taken, handlers, lines := asSaid(t, l, on("a", api.Datum{})); len(taken.Routes) != 0 || taken.Else || len(handlers) != 0 || lines != "" {
			t.Error(taken, handlers, lines)
		}
	}
	for _, d := range samples(t) {
		for _, parts := range [][]api.Want{nil, {}, make([]api.Want, 0, 3)} {
			if taken, _, _ := asSaid(t, []api.Route{{Filter: "a", Want: api.Want{List: parts}}}, on("a", d)); len(taken.Routes) != 1 {
				t.Errorf("kind %d: %v", d.Kind, taken)
			}
		}
	}
}

// A body's type is the same, asked of the value or by chapter 2.
func TestTypesAsked(t *testing.T) {
	for _, d := range samples(t) {
		for k := -2; k < api.NumKinds+2; k++ {
			if isOf(value.Of(d), k) != want.Holds(kind(k), d) || isOf(value.OfKind(d.Kind), k) != want.Holds(kind(k), d) {
				t.Errorf("kind %d of kind %d", d.Kind, k)
			}
		}
	}
	if isOf(struct{ other int }{}, api.KUnit) {
		t.Error("what stands for no value is of a kind")
	}
}

// Who goes through routes may leave in the midst of them, and begin anew.
func TestInOrderLeft(t *testing.T) {
	each := inOrder(chapterRoutes(), on("a/b", read(t, "5")))
	for range 2 {
		var places []int
		for at, f := range each {
			places = append(places, at)
			if f == agrees {
				break
			}
		}
		if !slices.Equal(places, []int{0, 1}) {
			t.Error(places)
		}
	}
}

// routesOf makes routes of any bytes, three each.
func routesOf(b []byte) (l []api.Route) {
	for ; len(b) >= 3; b = b[3:] {
		one := api.Route{Filter: someFilters[int(b[0])%len(someFilters)], Handler: int(b[2] % 8), Else: b[2] >= 128}
		switch n := int(b[1]); n % 4 {
		case 1:
			one.Want = kind(n / 4 % api.NumKinds)
		case 2:
			one.Want = face(n / 4 % api.NumFaces)
		case 3:
			one.Want = randomWant(newRandom(uint64(n)), 4)
		}
		l = append(l, one)
	}
	return l
}

// FuzzRoutes looks for routes and messages of which something else is told than the chapter says.
func FuzzRoutes(f *testing.F) {
	f.Add(uint8(2), uint8(4), []byte{3, 17, 0, 4, 0, 1, 0, 0, 130})
	r := newRandom(6)
	for range 40 {
		b := make([]byte, 3*r.IntN(10))
		for i := range b {
			b[i] = byte(r.IntN(256))
		}
		f.Add(uint8(r.IntN(256)), uint8(r.IntN(256)), b)
	}
	f.Fuzz(func(t *testing.T, name, body uint8, b []byte) {
		bodies := samples(t)
		l, m := routesOf(b), on(someNames[int(name)%len(someNames)], bodies[int(body)%len(bodies)])
		asSaid(t, l, m)
		for i := range l {
			asSaid(t, l[i:], m)
		}
	})
}
