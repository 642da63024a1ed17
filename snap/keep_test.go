package snap

import (
	"math"
	"strings"
	"testing"

	"conduit/api"
	"conduit/bus"
)

// P29.3: who shows save is asked, rising, and nobody else.
func TestKeepShown(t *testing.T) {
	p := plan(t, `
		handler a = echo;
		handler b = count caps save;
		handler c = count caps save, load with mask caps load;
		handler d = store caps save, load with buffer 2 0 with retry 3;
		handler e = count caps save with open hide;
		handler f = echo with give caps save, ping;
		handler g = sum caps save with limit 1 1 with breaker 1 1 with until 5 with dedup 3 with map:list with filter when int;
		handler h = less caps save;
	`)
	var ids []int64
	for _, d := range keepAsSaid(t, p, bus.New(p)) {
		ids = append(ids, d.Id)
		if d.Result.Err != api.OK || d.Result.Has == (d.Id == 5) {
			t.Error(d)
		}
	}
	if len(ids) != 5 || ids[0] != 1 || ids[1] != 3 || ids[2] != 5 || ids[3] != 6 || ids[4] != 7 {
		t.Error(ids)
	}
}

// P29.3: one that is closed is not asked, one whose core is closed is.
func TestKeepClosed(t *testing.T) {
	p := plan(t, `handler a = count caps save, load, close; handler b = sum caps save, load, close; route "#" -> a; route "#" -> b;`)
	st := after(p, publishing("x", number(5)), working(2), calling(0, api.CapClose, api.Datum{}))
	l := keepAsSaid(t, p, st)
	want := []api.Done{{Id: 0, Result: api.Result{Has: true, Body: read(t, "([1, 0, 0, true], (nil, []))")}}, {Id: 1, Result: api.Result{Has: true, Body: read(t, "([1, 0, 0, false], (5, []))")}}}
	if !sameDones(l, want) {
		t.Error(l)
	}
	st.Posts[0].Closed = true
	if l := keepAsSaid(t, p, st); !sameDones(l, want[1:]) {
		t.Error(l)
	}
	if l := keepAsSaid(t, p, after(p, closing())); len(l) != 0 {
		t.Error(l)
	}
}

// P29.3: what save tells is told, an error too.
func TestKeepErrors(t *testing.T) {
	p := plan(t, `handler a = less caps save, load; handler b = count caps save; route "#" -> a; route "#" -> b;`)
	st := bus.New(p)
	st.Posts[0].Built.Core.Last = read(t, strings.Repeat("[", 15)+strings.Repeat("]", 15))
	l := keepAsSaid(t, p, st)
	if len(l) != 2 || !sameDone(l[0], api.Done{Id: 0, Result: api.Result{Err: api.ErrHandler, Code: 5}}) || l[1].Result.Err != api.OK {
		t.Error(l)
	}
	// That is not given to anyone.
	if _, told := giveAsSaid(t, p, st, l[:1]); len(told) != 0 {
		t.Error(told)
	}
}

// kept is what a handler may have saved.
func kept(t testing.TB, id int64, s string) api.Done {
	t.Helper()
	return api.Done{Id: id, Result: api.Result{Has: true, Body: read(t, s)}}
}

// P29.4: who loads is told what of, in the order of the list; the last one stays.
func TestGive(t *testing.T) {
	p := plan(t, "handler a = count caps save, load; handler b = store caps save, load;")
	st := bus.New(p)
	st.Now, st.Next = 7, 8
	l := []api.Done{kept(t, 1, `([1, 2, 3, true], (nil, [1, "k"]))`), kept(t, 0, "([4, 0, 0, false], (nil, []))"), kept(t, 1, "([5, 0, 9, false], (2, [{}]))"), kept(t, 0, "6")}
	want := []api.Done{{Id: 1}, {Id: 0}, {Id: 1}, {Id: 0, Result: api.Result{Err: api.ErrPanic, Panic: api.Panic{Kind: api.PanAssert, Num: api.KInt}}}}
	next, told := giveAsSaid(t, p, st, l)
	if !sameDones(told, want) {
		t.Error(told)
	}
	st.Posts[0].Built.Core = api.CoreState{Count: 4}
	st.Posts[1].Built.Core = api.CoreState{Count: 5, Until: 9, Last: number(2), List: []api.Datum{{Kind: api.KUnit}}}
	if !same(next, st) {
		t.Error(next)
	}
}

// P29.4: nothing is done or told of what is no handler's, no answer, or no value.
func TestGiveNothing(t *testing.T) {
	p := plan(t, "handler a = count caps save, load; handler b = count caps save, load;")
	body := "([4, 0, 0, false], (nil, []))"
	odd := func(do func(d *api.Done)) api.Done {
		d := kept(t, 1, body)
		do(&d)
		return d
	}
	deep := read(t, strings.Repeat("[", 16)+strings.Repeat("]", 16))
	l := []api.Done{
		kept(t, -1, body), kept(t, 2, body), kept(t, math.MaxInt64, body), kept(t, math.MinInt64, body), kept(t, 1<<32, body), kept(t, 1<<32+1, body),
		odd(func(d *api.Done) { d.Result.Has = false }),
		odd(func(d *api.Done) { d.Result.Err = api.ErrHandler }),
		odd(func(d *api.Done) { d.Result.Err = api.ErrPanic }),
		odd(func(d *api.Done) { d.Result.Err = -1 }),
		odd(func(d *api.Done) { d.Result.Body = api.Datum{Kind: api.NumKinds} }),
		odd(func(d *api.Done) { d.Result.Body = list(deep) }),
		odd(func(d *api.Done) { d.Result.Body.Text = "t" }),
	}
	for _, d := range l {
		next, told := giveAsSaid(t, p, bus.New(p), []api.Done{d})
		if len(told) != 0 || !same(next, bus.New(p)) {
			t.Errorf("%v: %v, %v", d, next, told)
		}
	}
	// Those beside it are given.
	next, told := giveAsSaid(t, p, bus.New(p), append(l, kept(t, 1, body), l[0]))
	if !sameDones(told, []api.Done{{Id: 1}}) || next.Posts[1].Built.Core.Count != 4 || next.Posts[0].Built.Core.Count != 0 {
		t.Error(next, told)
	}
	if next, told := giveAsSaid(t, p, bus.New(p), nil); len(told) != 0 || !same(next, bus.New(p)) {
		t.Error(next, told)
	}
}

// P29.4: fields that a result has not, being OK, play no part.
func TestGiveOddFields(t *testing.T) {
	p := plan(t, "handler a = count caps save, load;")
	d := kept(t, 0, "([4, 0, 0, false], (nil, []))")
	d.Result.Code, d.Result.Panic = 7, api.Panic{Kind: api.PanOwn, Num: 1}
	if next, told := giveAsSaid(t, p, bus.New(p), []api.Done{d}); !sameDones(told, []api.Done{{Id: 0}}) || next.Posts[0].Built.Core.Count != 4 {
		t.Error(next, told)
	}
}

// P29.4: load is asked for as shown, not opened; of one that is closed too.
func TestGiveShown(t *testing.T) {
	p := plan(t, `
		handler a = count caps save, load with open hide;
		handler b = echo;
		handler c = echo with give caps load;
		handler d = count caps save, load with buffer 2 0;
		handler e = count caps save, load;
	`)
	st := bus.New(p)
	st.Posts[4].Closed = true
	body := "([4, 0, 0, true], (nil, []))"
	next, told := giveAsSaid(t, p, st, []api.Done{kept(t, 0, body), kept(t, 1, body), kept(t, 2, body), kept(t, 3, body), kept(t, 4, body)})
	hidden := api.Result{Err: api.ErrShown}
	if !sameDones(told, []api.Done{{Id: 0, Result: hidden}, {Id: 1, Result: hidden}, {Id: 2}, {Id: 3}, {Id: 4}}) {
		t.Error(told)
	}
	for h, want := range []int64{0, 0, 0, 4, 4} {
		if core := next.Posts[h].Built.Core; core.Count != want || core.Closed != (want == 4) {
			t.Error(h, core)
		}
	}
	if next.Posts[3].Closed || !next.Posts[4].Closed {
		t.Error("a post was opened or closed")
	}
}

// P29.3, P29.4: of any states, and of what was kept of any.
func TestAnyKept(t *testing.T) {
	r := newRandom(5)
	keptOnes, given := 0, map[api.Errno]int{}
	for range 4000 {
		p := randomPlan(t, r)
		st := randomState(t, r, p)
		keptOnes += len(keepAsSaid(t, p, st))
		next, told := giveAsSaid(t, p, st, randomKept(t, r, p, randomState(t, r, p)))
		for _, d := range told {
			given[d.Result.Err]++
		}
		if !bus.Fit(p, next) {
			t.Fatalf("%v is not fit", next)
		}
	}
	if keptOnes < 1000 || given[api.OK] < 500 || given[api.ErrShown] < 500 || given[api.ErrPanic] < 150 {
		t.Errorf("some kind is seldom: %d, %v", keptOnes, given)
	}
}
