package core

import (
	"math"
	"strconv"
	"strings"
	"testing"

	"conduit/api"
)

// ofEach is a value of each kind, by the kind's number.
var ofEach = []string{"nil", "-5", "#7", "f3ff0000000000000", `"te"`, `@"n"`, "true", "%00ff07", "[1, nil]", `(1, "x")`, `!3"e"`, "&2([1])", "&nil", "{}"}

// each plays one step of a fresh core for a value of each kind.
func each(t *testing.T, core string, results ...string) {
	t.Helper()
	if len(results) != api.NumKinds {
		t.Fatal(core, len(results))
	}
	for kind, s := range ofEach {
		if got := read(t, s).Kind; got != kind {
			t.Fatalf("%s: %d", s, got)
		}
		play(t, core, api.CoreState{}, s+" => "+results[kind])
	}
}

// alike is one result for all kinds.
func alike(result string) []string {
	return strings.Split(strings.Repeat(result+"\n", api.NumKinds-1)+result, "\n")
}

// P10.1: each core, of a value of each kind.
func TestEachKind(t *testing.T) {
	each(t, "echo", ofEach...)
	each(t, "count", alike("1")...)
	each(t, "store", "0", "0", "0", "0", "0", "0", "0", "panic compare 0", "panic compare 0", "0", "0", "0", "0", "0")
	each(t, "sum", "code 2", "-5", "code 2", "f3ff0000000000000", "code 2", "code 2", "code 2", "code 2", "code 2", "code 2", "code 2", "code 2", "code 2", "code 2")
	each(t, "size", "code 3", "code 3", "code 3", "code 3", "2", "1", "code 3", "3", "2", "2", "code 3", "1", "0", "code 3")
	each(t, "unbox", "panic assert -1", "panic assert 3", "panic assert 3", "panic assert 3", "panic assert 3", "panic assert 3", "panic assert 3", "panic assert 3", "panic assert 3", "panic assert 3", "panic assert 3", "[1]", "panic nil 0", "panic assert 3")
	each(t, "fail 9", alike("code 9")...)
	each(t, "panic 9", alike("panic own 9")...)
	each(t, "nth", "panic assert 0", "panic assert 1", "panic assert 2", "panic assert 3", "panic assert 4", "panic assert 5", "panic assert 6", "panic assert 7", "1", "panic assert 9", "panic assert 10", "panic assert 11", "panic assert 12", "panic assert 13")
	each(t, "none", alike("error 101")...)
	each(t, "mute", alike("none")...)
	each(t, "less", "code 4", "false", "false", "false", "false", "false", "code 4", "code 4", "code 4", "code 4", "code 4", "code 4", "code 4", "code 4")
}

// P10.1: any fit core, state, body and tick.
func TestHandleAsSaid(t *testing.T) {
	r := newRandom(1)
	seen := map[string]int{}
	for range 30000 {
		co := randomCore(r)
		fitCore(t, co)
		c := randomCall(r, co, randomState(r))
		c.which = -1
		_, result := c.asSaid(t)
		seen[coreWords[co.Op]+" "+strings.Fields(show(result))[0]]++
	}
	for _, what := range []string{"store panic", "store code", "sum panic", "sum code", "less panic", "less code", "less true", "unbox panic", "nth panic", "echo error", "size code"} {
		if seen[what] < 10 {
			t.Error(what, seen[what])
		}
	}
}

// P10.1: closed ahead of late, and both ahead of what the core does.
func TestClosedAndLate(t *testing.T) {
	for op := 1; op <= 12; op++ {
		word := coreWords[op]
		for _, s := range ofEach {
			play(t, word, api.CoreState{Closed: true}, s+" => error 200")
			play(t, word, api.CoreState{Closed: true, Until: 5}, "at 6", s+" => error 200")
			play(t, word, api.CoreState{Until: 5}, "at 6", s+" => error 170", "at 1099511627776", s+" => error 170")
		}
	}
	play(t, "count", api.CoreState{Until: 5}, "at 4", "1 => 1", "at 5", "1 => 2", "at 6", "1 => error 170", "at 5", "1 => 3")
	play(t, "count", api.CoreState{}, "at 1099511627776", "1 => 1")
	play(t, "count", api.CoreState{Until: api.MaxTick}, "at 1099511627776", "1 => 1")
}

// P10.1: one more is at most 2^62.
func TestCountStays(t *testing.T) {
	for core, results := range map[string][2]string{"count": {"4611686018427387904", "4611686018427387904"}, "sum": {"5", "6"}, "less": {"false", "false"}} {
		st := play(t, core, api.CoreState{Count: top - 1, Last: number(4)}, "1 => "+results[0])
		if st.Count != top {
			t.Error(core, st)
		}
		if st = play(t, core, st, "1 => "+results[1]); st.Count != top {
			t.Error(core, st)
		}
	}
}

// P10.1: CoStore: the same key is found by what it is, wherever it stands in List.
func TestStore(t *testing.T) {
	st := play(t, "store", api.CoreState{},
		"nil => 0", "nil => 0", "&nil => 1", "{} => 2", "&nil => 1", `"a" => 3`, `@"a" => 4`, "1 => 5", "#1 => 6", "true => 7", "false => 8", `!1"" => 9`, `!1"e" => 10`, `!1"" => 9`,
		"&1([2]) => 11", "&1(5) => 11", "&2([2]) => 12", "(1, &1(%)) => 13", "(1, &1(nil)) => 13", "(f0000000000000000, 1) => 14", "(f8000000000000000, 1) => 14",
		"(1, f7ff8000000000001) => 15", "(1, f7ff8000000000001) => 16", "nil => 0", "{} => 2",
		"% => panic compare 0", "[] => panic compare 0", "([], 1) => panic compare 0", "(1, (2, (3, %00))) => panic compare 0", "(f7ff8000000000001, []) => panic compare 0")
	if len(st.List) != 17 || show(gave(st.List[11])) != "&1([2])" || show(gave(st.List[14])) != "(f0000000000000000, 1)" || st.Count != 0 {
		t.Error(st)
	}
}

// P10.1: what CoStore has no room for; what it has already, and what can't be a key, comes ahead of that.
func TestStoreRoom(t *testing.T) {
	play(t, "store 2", api.CoreState{}, "5 => 0", "6 => 1", "7 => code 1", "5 => 0", "6 => 1", "[] => panic compare 0", "f7ff8000000000001 => code 1")
	play(t, "store 1", api.CoreState{List: readAll(t, "1", "2", "3")}, "4 => code 1", "3 => 2")
	play(t, "store 3", api.CoreState{List: readAll(t, "1", "2", "3")}, "4 => code 1")
	play(t, "store 4", api.CoreState{List: readAll(t, "1", "2", "3")}, "4 => 3", "5 => code 1")
	play(t, "store 1000000", api.CoreState{List: readAll(t, "1", "2", "3")}, "4 => 3")
	var st api.CoreState
	for i := range 3000 {
		st.List = append(st.List, number(int64(i)))
	}
	play(t, "store 0", st, "3000 => 3000", "2999 => 2999", "0 => 0")
	play(t, "store 3000", st, "3000 => code 1", "2999 => 2999")
}

// P10.1: CoSum, of ints and of floats, and from states that no sum has come to.
func TestSum(t *testing.T) {
	play(t, "sum", api.CoreState{}, "9223372036854775807 => 9223372036854775807", "1 => -9223372036854775808", "#1 => code 2", "-1 => 9223372036854775807")
	play(t, "sum", api.CoreState{}, "f3ff0000000000000 => f3ff0000000000000", "1 => panic assert 1", "f3ff0000000000000 => f4000000000000000", "f7ff0000000000000 => f7ff0000000000000", "ffff0000000000000 => f7ff8000000000001", "f7ff0000000000007 => f7ff8000000000001")
	play(t, "sum", api.CoreState{}, "f8000000000000000 => f8000000000000000", "f8000000000000000 => f8000000000000000", "f0000000000000000 => f0000000000000000")
	play(t, "sum", api.CoreState{}, "f7ff0000000000007 => f7ff0000000000007")
	for _, s := range ofEach {
		want := "panic assert 1"
		if s == "-5" {
			want = "-3"
		}
		play(t, "sum", api.CoreState{Count: 1, Last: read(t, s)}, "2 => "+want)
		play(t, "sum", api.CoreState{Last: read(t, s)}, "2 => 2", "3 => 5")
	}
}

// P10.1: CoLess is told of the one ahead and this one, in this order.
func TestLess(t *testing.T) {
	st := play(t, "less", api.CoreState{}, "2 => false", "3 => true", "3 => false", "2 => false", "#4 => panic assert 2", "true => code 4", "4 => true")
	if !sameState(st, api.CoreState{Count: 5, Last: number(4)}) {
		t.Error(st)
	}
	play(t, "less", api.CoreState{}, `"a" => false`, `"ab" => true`, `"b" => true`, `@"c" => panic assert 5`)
	play(t, "less", api.CoreState{}, "f3ff0000000000000 => false", "f7ff8000000000001 => false", "f7ff0000000000000 => false")
	for _, s := range ofEach {
		want := "panic assert 1"
		if s == "-5" {
			want = "true"
		}
		play(t, "less", api.CoreState{Count: 1, Last: read(t, s)}, "2 => "+want)
		play(t, "less", api.CoreState{Last: read(t, s)}, "2 => false", "3 => true")
	}
}

// P10.1: CoNth at the ends, CoFail and CoPanic of any number.
func TestNumbers(t *testing.T) {
	for n, want := range map[string]string{"0": "1", "1": "[2]", "2": "nil", "3": "panic index 3", "-1": "panic index -1", "4294967296": "panic index 4294967296", "9223372036854775807": "panic index 9223372036854775807", "-9223372036854775808": "panic index -9223372036854775808"} {
		play(t, "nth "+n, api.CoreState{}, "[1, [2], nil] => "+want, "[] => panic index "+n, "nil => panic assert 0")
	}
	for _, n := range []int64{0, 1, 2, -1, -7, math.MaxInt64, math.MinInt64} {
		s := strconv.FormatInt(n, 10)
		play(t, "fail "+s, api.CoreState{}, "1 => code "+s)
		how := "own "
		if n < 0 {
			how = "error "
		}
		play(t, "panic "+s, api.CoreState{}, "1 => panic "+how+s)
	}
	play(t, "fail", api.CoreState{}, "1 => code 1")
	play(t, "panic", api.CoreState{}, "1 => panic own 1")
}

// P10.1: CoSize and CoOpen at their edges.
func TestSizeAndUnbox(t *testing.T) {
	play(t, "size", api.CoreState{}, `"" => 0`, "% => 0", "[] => 0", "[[], []] => 2", "([], []) => 2", "&1([1, 2, 3]) => 1", `@"\xc3\xa9" => 2`)
	play(t, "unbox", api.CoreState{}, "&1(nil) => nil", "&1(&nil) => &nil", "&1(&2([(1, 2)])) => &2([(1, 2)])")
	long := strings.Repeat("a", api.MaxBytes)
	play(t, "size", api.CoreState{}, `"`+long+`" => 65535`)
}
