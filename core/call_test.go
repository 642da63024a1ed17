package core

import (
	"math"
	"slices"
	"strconv"
	"strings"
	"testing"

	"conduit/api"
)

// P10.2: any call of any fit core.
func TestCallAsSaid(t *testing.T) {
	r := newRandom(2)
	seen := map[string]int{}
	for range 30000 {
		co := randomCore(r)
		fitCore(t, co)
		c := randomCall(r, co, randomState(r))
		c.which = max(c.which, 0)
		_, result := c.asSaid(t)
		seen[capWords[c.which]+" "+strings.Fields(show(result))[0]]++
	}
	for _, what := range []string{"flush 0", "flush 1", "flush error", "close none", "close code", "close panic", "close error", "batch 2", "batch panic", "ack panic", "ping true", "ping code", "reset none", "load none", "load panic", "name error", "until none", "until panic", "until error"} {
		if seen[what] < 10 {
			t.Error(what, seen[what])
		}
	}
}

// P10.2: what Caps has not, and what is no capability, is not shown, whatever the state.
func TestNotShown(t *testing.T) {
	for op := 1; op <= 12; op++ {
		for which := range 10 {
			co := coreWith(op, 1, 1023)
			co.Caps = properCaps(op, co.Caps&^(1<<which))
			fitCore(t, co)
			for _, st := range []api.CoreState{{}, {Closed: true}, {Until: 1}} {
				if after, r := Call(co, st, which, number(1), 5); show(r) != "error 201" || !sameState(after, st) {
					t.Errorf("%+v: %d: %s", co, which, show(r))
				}
			}
		}
		co := coreWith(op, 1, 1023)
		for _, which := range []int{-1, -2, -64, -63, 10, 11, 12, 31, 32, 33, 63, 64, 65, 1 << 32, math.MaxInt, math.MinInt} {
			if after, r := Call(co, api.CoreState{Count: 3}, which, number(1), 0); show(r) != "error 201" || !sameState(after, api.CoreState{Count: 3}) {
				t.Errorf("%+v: %d: %s", co, which, show(r))
			}
		}
	}
}

// wholeState is one that has something in each field.
func wholeState(t *testing.T) api.CoreState {
	return api.CoreState{Count: 3, Acked: 4, Last: read(t, "[7]"), List: readAll(t, "1", "(2, 3)"), Until: 9}
}

// P10.2: flush empties what CoStore has, and nothing of any other core.
func TestFlush(t *testing.T) {
	for op := 1; op <= 12; op++ {
		st := wholeState(t)
		n := "0"
		if op == api.CoStore {
			n = "2"
		}
		after := play(t, coreWords[op]+" caps flush", st, "at 20", "flush: 1 => "+n, "flush: 1 => 0")
		if op == api.CoStore {
			st.List = nil
		}
		if !sameState(after, st) {
			t.Error(op, after)
		}
		st.Closed = true
		if after = play(t, coreWords[op]+" caps flush", st, "flush: nil => error 200"); !sameState(after, st) {
			t.Error(op, after)
		}
	}
	play(t, "store 2 caps flush", api.CoreState{}, "5 => 0", "6 => 1", "7 => code 1", "flush: nil => 2", "7 => 0", "5 => 1", "6 => code 1")
}

// P10.2: close, once; what it does stays beside an error or a panic.
func TestClose(t *testing.T) {
	for op := 1; op <= 12; op++ {
		want := "none"
		switch op {
		case api.CoFail:
			want = "code 1"
		case api.CoPanic:
			want = "panic own 1"
		}
		st := wholeState(t)
		after := play(t, coreWords[op]+" caps close, flush, ping", st, "at 20", "close: [] => "+want)
		st.Closed = true
		if !sameState(after, st) {
			t.Error(op, after)
		}
		play(t, coreWords[op]+" caps close, flush, ping", after, "close: nil => error 200", "1 => error 200", "flush: nil => error 200", "ping: nil => error 200")
	}
	play(t, "panic -2 caps close", api.CoreState{}, "close: nil => panic error -2", "close: nil => error 200")
	play(t, "fail 0 caps close", api.CoreState{}, "close: nil => code 0", "close: nil => error 200")
}

// P10.2: batch counts what came out OK, and goes on behind what did not.
func TestBatch(t *testing.T) {
	play(t, "echo caps batch, flush", api.CoreState{}, "batch: [1, nil, [2]] => 3", "batch: [] => 0")
	play(t, "mute caps batch, flush", api.CoreState{}, "batch: [1, nil] => 2")
	for _, core := range []string{"fail", "panic", "none", "unbox", "size", "nth"} {
		play(t, core+" caps batch, flush", api.CoreState{}, "batch: [1, {}] => 0")
	}
	play(t, "unbox caps batch, flush", api.CoreState{}, "batch: [&nil, &1(2), 3, nil, &2(&nil)] => 2")
	st := play(t, "store 3 caps batch, flush", api.CoreState{}, "batch: [1, [], 1, 2, %, 3, 4, 2] => 5", "4 => code 1")
	if len(st.List) != 3 {
		t.Error(st)
	}
	st = play(t, "sum caps batch, flush", api.CoreState{}, `batch: [1, f3ff0000000000000, "x", 2, 3] => 3`)
	if !sameState(st, api.CoreState{Count: 3, Last: number(6)}) {
		t.Error(st)
	}
	for kind, s := range ofEach {
		want := "panic assert " + strconv.Itoa(kind)
		if kind == api.KList {
			want = "2"
		}
		play(t, "count caps batch, flush", api.CoreState{}, "batch: "+s+" => "+want)
	}
	play(t, "count caps batch, flush, close", api.CoreState{}, "close: nil => none", "batch: [1, 2] => 0", "batch: 1 => panic assert 1")
	play(t, "count caps batch, flush", api.CoreState{Until: 5}, "at 6", "batch: [1, 2] => 0", "at 5", "batch: [1, 2] => 2")
}

// P10.2: a batch of many, into many.
func TestGreatBatch(t *testing.T) {
	var st api.CoreState
	for i := range 100000 {
		st.List = append(st.List, number(int64(i)))
	}
	l := make([]api.Datum, 4095)
	for i := range l {
		l[i] = number(int64(50*i - 7))
	}
	co := coreOf(t, "store caps batch, flush")
	after, r := Call(co, st, api.CapBatch, api.Datum{Kind: api.KList, List: l}, 0)
	if show(r) != "4095" || len(after.List) != 100000+1+2094 {
		t.Error(show(r), len(after.List))
	}
}

// P10.2: ack counts, of a closed core too.
func TestAck(t *testing.T) {
	for op := 1; op <= 12; op++ {
		for _, closed := range []bool{false, true} {
			st := api.CoreState{Acked: 6, Closed: closed, Until: 5}
			after := play(t, coreWords[op]+" caps ack, until", st, "at 9", "ack: 5 => 7", "ack: -1 => 8", "ack: #1 => panic assert 2", "ack: nil => panic assert 0")
			if !sameState(after, api.CoreState{Acked: 8, Closed: closed, Until: 5}) {
				t.Error(op, after)
			}
		}
	}
	for kind, s := range ofEach {
		want := "panic assert " + strconv.Itoa(kind)
		if kind == api.KInt {
			want = "1"
		}
		play(t, "count caps ack, until", api.CoreState{}, "ack: "+s+" => "+want)
	}
	st := play(t, "echo caps ack, until", api.CoreState{Acked: top - 1}, "ack: 1 => 4611686018427387904", "ack: 1 => 4611686018427387904")
	if st.Acked != top {
		t.Error(st)
	}
}

// P10.2: ping.
func TestPing(t *testing.T) {
	for op := 1; op <= 12; op++ {
		want := "true"
		if op == api.CoFail {
			want = "code 1"
		}
		st := wholeState(t)
		if after := play(t, coreWords[op]+" caps ping", st, "at 20", "ping: [] => "+want); !sameState(after, st) {
			t.Error(op, after)
		}
		play(t, coreWords[op]+" caps ping", api.CoreState{Closed: true}, "ping: nil => error 200")
	}
	play(t, "fail -4 caps ping", api.CoreState{}, "ping: nil => code -4")
}

// P10.2: reset keeps nothing but whether it is closed.
func TestReset(t *testing.T) {
	for op := 1; op <= 12; op++ {
		for _, closed := range []bool{false, true} {
			st := wholeState(t)
			st.Closed = closed
			if after := play(t, coreWords[op]+" caps ping, reset", st, "at 20", "reset: 1 => none"); !sameState(after, api.CoreState{Closed: closed}) {
				t.Error(op, after)
			}
		}
	}
}

// P10.2: save and load, of a closed core too.
func TestSaveAndLoad(t *testing.T) {
	for _, core := range []string{"count", "store", "sum", "less"} {
		for _, closed := range []bool{false, true} {
			st := wholeState(t)
			st.Closed = closed
			is := strconv.FormatBool(closed)
			if after := play(t, core+" caps save, load", st, "at 20", "save: 1 => ([3, 4, 9, "+is+"], ([7], [1, (2, 3)]))"); !sameState(after, st) {
				t.Error(core, after)
			}
			if after := play(t, core+" caps save, load", api.CoreState{Closed: true, Count: 77}, "load: ([3, 4, 9, "+is+"], ([7], [1, (2, 3)])) => none"); !sameState(after, st) {
				t.Error(core, after)
			}
		}
		for kind, s := range ofEach {
			play(t, core+" caps save, load", wholeState(t), "load: "+s+" => panic assert "+strconv.Itoa(kind))
		}
		play(t, core+" caps save, load", wholeState(t), "load: ([3, 4, 9, true], ([7], [1, 1])) => panic assert 9")
		deep := api.CoreState{Last: read(t, nested(15))}
		if after := play(t, core+" caps save", deep, "save: nil => code 5"); !sameState(after, deep) {
			t.Error(core, after)
		}
	}
}

// P10.2: name, of a closed core too.
func TestName(t *testing.T) {
	for op := 1; op <= 12; op++ {
		play(t, coreWords[op]+" caps name", api.CoreState{}, `name: 5 => "`+coreWords[op]+`"`)
		play(t, coreWords[op]+" caps name", api.CoreState{Closed: true, Until: 1}, "at 5", `name: 5 => "`+coreWords[op]+`"`)
	}
}

// P10.2: until takes ticks.
func TestUntil(t *testing.T) {
	for kind, s := range ofEach {
		if kind != api.KInt {
			play(t, "count caps until", api.CoreState{}, "until: "+s+" => panic assert "+strconv.Itoa(kind))
		}
	}
	for op := 1; op <= 12; op++ {
		for _, closed := range []bool{false, true} {
			st := play(t, coreWords[op]+" caps until", api.CoreState{Closed: closed, Until: 2}, "at 20", "until: 1099511627776 => none", "until: 1099511627777 => error 82", "until: -1 => error 82", "until: 9223372036854775807 => error 82", "until: -9223372036854775808 => error 82")
			if !sameState(st, api.CoreState{Closed: closed, Until: api.MaxTick}) {
				t.Error(op, st)
			}
		}
	}
	play(t, "count caps until", api.CoreState{}, "at 6", "1 => 1", "until: 5 => none", "1 => error 170", "until: 6 => none", "1 => 2", "until: 0 => none", "at 100", "1 => 3")
}

// P10.2: of a core with all capabilities that it may have, each is shown.
func TestAllShown(t *testing.T) {
	for op := 1; op <= 12; op++ {
		co := coreWith(op, 1, 1023)
		fitCore(t, co)
		for which := range 10 {
			keeps := slices.Contains([]string{"count", "store", "sum", "less"}, coreWords[op])
			_, r := Call(co, api.CoreState{}, which, read(t, "([0, 0, 0, false], (nil, []))"), 0)
			if shown := r.Err != api.ErrShown; shown != (keeps || which != api.CapSave && which != api.CapLoad) {
				t.Errorf("%+v: %d: %s", co, which, show(r))
			}
		}
	}
}
