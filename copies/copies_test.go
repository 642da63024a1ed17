package copies_test

import (
	"reflect"
	"testing"

	"conduit/api"
	"conduit/copies"
)

func body(n int64) api.Datum {
	return api.Datum{Kind: api.KList, List: []api.Datum{{Kind: api.KInt, Int: n}, {Kind: api.KPair, List: make([]api.Datum, 2)}}}
}

func message(n int64) api.Msg {
	return api.Msg{Id: n, Topic: "x", Body: body(n), At: 1, Until: 2, Reply: "r", Corr: 3, Prio: 4, Hops: 5}
}

func core() api.CoreState {
	return api.CoreState{Count: 1, Acked: 2, Last: body(3), List: []api.Datum{body(4)}, Closed: true, Until: 5}
}

func built() api.Built {
	return api.Built{Core: core(), Wraps: []api.WrapState{
		{Limit: api.Limit{Level: 1, Last: 2}, Breaker: api.Breaker{Fails: 3, Until: 4}, Dedup: api.Dedup{Ids: []int64{5, 6}}, Until: 7},
		{Buffer: api.Buffer{Msgs: []api.Msg{message(8), message(9)}, Since: 10}},
	}}
}

func bus() api.Bus {
	post := api.Post{Built: built(), Inbox: api.Inbox{Msgs: []api.Msg{message(1)}, Refused: 2, Dropped: 3}, Held: []api.Msg{message(4)}, Closed: true}
	return api.Bus{Now: 1, Next: 2, Turn: 1, Asks: api.Asks{Next: 3, Wait: []api.Ask{{Corr: 3, Until: 4, Topic: "r"}}}, Posts: []api.Post{post, post}}
}

// spoil writes over all lists in a value, spare room too.
func spoil(v reflect.Value) {
	switch v.Kind() {
	case reflect.Struct:
		for i := range v.NumField() {
			spoil(v.Field(i))
		}
	case reflect.Slice:
		for i := range v.Len() {
			spoil(v.Index(i))
		}
		v.Slice(0, v.Cap()).Clear()
	}
}

// check holds a copy against what it is one of: they are the same, and neither changes with the other one.
func check[T any](t *testing.T, make func() T, copied func(T) T) {
	t.Helper()
	for _, spoilt := range []int{0, 1} {
		x := make()
		pair := []T{x, copied(x)}
		if !reflect.DeepEqual(pair[1], make()) {
			t.Errorf("%v became %v", make(), pair[1])
		}
		spoil(reflect.ValueOf(pair[spoilt]))
		if left := pair[1-spoilt]; !reflect.DeepEqual(left, make()) {
			t.Errorf("%v became %v with its copy, or that with it", make(), left)
		}
	}
}

func TestCopies(t *testing.T) {
	check(t, func() api.Msg { return message(1) }, copies.Msg)
	check(t, func() []api.Msg { return []api.Msg{message(1), message(2)} }, copies.Msgs)
	check(t, core, copies.Core)
	check(t, built, copies.Built)
	check(t, bus, copies.Bus)
}

// The two posts of a bus whose lists are the same memory have memory of their own each in its copy.
func TestTwice(t *testing.T) {
	st := bus()
	both := copies.Bus(api.Bus{Posts: []api.Post{st.Posts[0], st.Posts[0]}})
	spoil(reflect.ValueOf(both.Posts[0]))
	if !reflect.DeepEqual(both.Posts[1], bus().Posts[0]) {
		t.Error(both.Posts[1])
	}
}

// Of nothing there is nothing, spare room neither.
func TestNone(t *testing.T) {
	if l := copies.Msgs(make([]api.Msg, 0, 3)); l != nil {
		t.Error(l, cap(l))
	}
	if st := copies.Bus(api.Bus{}); !reflect.DeepEqual(st, api.Bus{}) {
		t.Error(st)
	}
	st := copies.Bus(api.Bus{Asks: api.Asks{Wait: make([]api.Ask, 0, 3)}, Posts: make([]api.Post, 0, 3)})
	if cap(st.Asks.Wait)+cap(st.Posts) > 0 {
		t.Error(st)
	}
}
