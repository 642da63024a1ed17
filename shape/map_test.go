package shape

import (
	"strings"
	"testing"

	"conduit/api"
	"conduit/datum"
)

// P17.2: every map, and what is none, of every value.
func TestEveryMap(t *testing.T) {
	for _, op := range anyOps() {
		for _, d := range values() {
			for _, topic := range []string{"", "t", "a/b", "\x00\"\xff"} {
				asSaid(t, op, topic, d)
			}
		}
	}
}

// P17.2: ints wrap round, a sum of floats that is no number has the bits that chapter 1 says, and nought keeps its sign.
func TestDouble(t *testing.T) {
	play(t,
		mapped{api.MapDouble, "0", "0"},
		mapped{api.MapDouble, "-3", "-6"},
		mapped{api.MapDouble, "9223372036854775807", "-2"},
		mapped{api.MapDouble, "-9223372036854775808", "0"},
		mapped{api.MapDouble, "4611686018427387904", "-9223372036854775808"},
		mapped{api.MapDouble, "f3ff0000000000000", "f4000000000000000"},
		mapped{api.MapDouble, "f8000000000000000", "f8000000000000000"},
		mapped{api.MapDouble, "f0000000000000000", "f0000000000000000"},
		mapped{api.MapDouble, "f0000000000000001", "f0000000000000002"},
		mapped{api.MapDouble, "f7fefffffffffffff", "f7ff0000000000000"},
		mapped{api.MapDouble, "ffff0000000000000", "ffff0000000000000"},
		mapped{api.MapDouble, "ffff8000000000000", "f7ff8000000000001"},
		mapped{api.MapDouble, "f7ff0000000000001", "f7ff8000000000001"},
		mapped{api.MapDouble, "#5", "panic assert 5"},
		mapped{api.MapDouble, "true", "panic assert 5"},
		mapped{api.MapDouble, "[1]", "panic assert 5"},
		mapped{api.MapDouble, "&1(5)", "panic assert 5"},
		mapped{api.MapDouble, "&nil", "panic assert 5"},
		mapped{api.MapDouble, "{}", "panic assert 5"},
	)
}

// P17.2: whatever it is, it stands in the list alone.
func TestList(t *testing.T) {
	play(t,
		mapped{api.MapList, "nil", "[nil]"},
		mapped{api.MapList, "[]", "[[]]"},
		mapped{api.MapList, "[1, 2]", "[[1, 2]]"},
		mapped{api.MapList, "&nil", "[&nil]"},
		mapped{api.MapList, `"t"`, `["t"]`},
	)
}

// P17.2: only pointers are opened, and a nil one panics.
func TestOpen(t *testing.T) {
	play(t,
		mapped{api.MapOpen, "&2([1, &2(7)])", "[1, &2(7)]"},
		mapped{api.MapOpen, "&2(&nil)", "&nil"},
		mapped{api.MapOpen, "&2(nil)", "nil"},
		mapped{api.MapOpen, "nil", "panic assert -1"},
		mapped{api.MapOpen, "5", "panic assert 3"},
		mapped{api.MapOpen, `!3"e"`, "panic assert 3"},
		mapped{api.MapOpen, "[&1(5)]", "panic assert 3"},
	)
	if api.MOpen != 3 {
		t.Error("the number that is written above")
	}
}

// P17.2: the size of what has one; else no panic.
func TestSize(t *testing.T) {
	play(t,
		mapped{api.MapSize, `""`, "0"},
		mapped{api.MapSize, `"\xff\xff"`, "2"},
		mapped{api.MapSize, `@"abc"`, "3"},
		mapped{api.MapSize, "%00ff01", "3"},
		mapped{api.MapSize, "[]", "0"},
		mapped{api.MapSize, "[1, [2, 3, 4]]", "2"},
		mapped{api.MapSize, "([1, 2, 3], 2)", "2"},
		mapped{api.MapSize, "&1([1, 2, 3])", "1"},
		mapped{api.MapSize, "&nil", "0"},
		mapped{api.MapSize, "nil", "no method"},
		mapped{api.MapSize, "5", "no method"},
		mapped{api.MapSize, `!3"abc"`, "no method"},
		mapped{api.MapSize, "{}", "no method"},
	)
}

// P17.2: the name of what has one, a text and no name; else no panic.
func TestName(t *testing.T) {
	play(t,
		mapped{api.MapName, `@"ab"`, `"ab"`},
		mapped{api.MapName, `@""`, `""`},
		mapped{api.MapName, "#0", `"key 0"`},
		mapped{api.MapName, "#-9223372036854775808", `"key -9223372036854775808"`},
		mapped{api.MapName, `!3"e"`, `"e"`},
		mapped{api.MapName, `!3""`, `""`},
		mapped{api.MapName, `"ab"`, "no method"},
		mapped{api.MapName, "nil", "no method"},
		mapped{api.MapName, "7", "no method"},
		mapped{api.MapName, "&nil", "no method"},
		mapped{api.MapName, `&1(@"a")`, "no method"},
	)
}

// P17.2: of what is no bool the panic tells the kind, that of nil too.
func TestNot(t *testing.T) {
	play(t,
		mapped{api.MapNot, "true", "false"},
		mapped{api.MapNot, "false", "true"},
		mapped{api.MapNot, "0", "panic assert 1"},
		mapped{api.MapNot, "nil", "panic assert 0"},
		mapped{api.MapNot, `"true"`, "panic assert 4"},
		mapped{api.MapNot, "&nil", "panic assert 12"},
		mapped{api.MapNot, "&1(true)", "panic assert 11"},
		mapped{api.MapNot, "[true]", "panic assert 8"},
		mapped{api.MapNot, "{}", "panic assert 13"},
	)
}

// P17.2: the topic comes first, whatever text it is.
func TestPair(t *testing.T) {
	play(t,
		mapped{api.MapPair, "nil", `("t", nil)`},
		mapped{api.MapPair, `"t"`, `("t", "t")`},
		mapped{api.MapPair, "(1, 2)", `("t", (1, 2))`},
	)
	for _, topic := range []string{"", "#", "+/\x00", "\xff\"", strings.Repeat("x", api.MaxBytes)} {
		got := asSaid(t, api.MapPair, topic, number(5))
		if !datum.Same(got.Body, api.Datum{Kind: api.KPair, List: []api.Datum{text(topic), number(5)}}) {
			t.Errorf("%.50q: %.100s", topic, show(got))
		}
	}
}

// P17.2: what has a named type of its own becomes of it, all else stays.
func TestKey(t *testing.T) {
	play(t,
		mapped{api.MapKey, "-9223372036854775808", "#-9223372036854775808"},
		mapped{api.MapKey, "0", "#0"},
		mapped{api.MapKey, `""`, `@""`},
		mapped{api.MapKey, "#5", "#5"},
		mapped{api.MapKey, `@"a"`, `@"a"`},
		mapped{api.MapKey, "%61", "%61"},
		mapped{api.MapKey, `!3"a"`, `!3"a"`},
		mapped{api.MapKey, "true", "true"},
		mapped{api.MapKey, "[1]", "[1]"},
		mapped{api.MapKey, `&1("a")`, `&1("a")`},
		mapped{api.MapKey, "nil", "nil"},
		mapped{api.MapKey, "f7ff0000000000001", "f7ff0000000000001"},
	)
}

// P17.2: what is no map.
func TestNoMap(t *testing.T) {
	for _, op := range anyOps() {
		if op >= api.MapDouble && op < api.NumMaps {
			continue
		}
		for _, d := range values() {
			if got := show(asSaid(t, op, "t", d)); got != "no method" {
				t.Errorf("%d of %s: %s", op, datum.Print(d), got)
			}
		}
	}
}

// P17.2: the greatest values that another one may be laid around, and the least that are too great.
func TestTooGreat(t *testing.T) {
	for _, c := range []struct {
		d          api.Datum
		list, pair bool
	}{
		{nested(number(5), api.MaxDeep-2), true, true},
		{nested(number(5), api.MaxDeep-1), false, false},
		{wide(api.MaxItems - 2), true, true},
		{wide(api.MaxItems - 1), true, false},
		{wide(api.MaxItems), false, false},
	} {
		if !datum.Valid(c.d) {
			t.Fatal("a value that is none")
		}
		if got := asSaid(t, api.MapList, "t", c.d); got.Has != c.list || !c.list && show(got) != "no value" {
			t.Errorf("a list: %.100s", show(got))
		}
		if got := asSaid(t, api.MapPair, "t", c.d); got.Has != c.pair || !c.pair && show(got) != "no value" {
			t.Errorf("a pair: %.100s", show(got))
		}
	}
}

// P17.2: of values that are as great as they may be, all other maps answer as of others.
func TestGreatValues(t *testing.T) {
	long := strings.Repeat("y", api.MaxBytes)
	great := []api.Datum{
		nested(number(5), api.MaxDeep-1), nested(number(5), api.MaxDeep-2), nested(number(5), api.MaxDeep-3), wide(api.MaxItems),
		{Kind: api.KPtr, Int: 1, List: []api.Datum{wide(api.MaxItems - 1)}},
		text(long), {Kind: api.KName, Text: long}, {Kind: api.KErr, Int: 5, Text: long}, {Kind: api.KBytes, Text: long},
	}
	for _, d := range great {
		if !datum.Valid(d) {
			t.Fatal("a value that is none")
		}
		for op := range api.NumMaps {
			asSaid(t, op, long, d)
		}
	}
}

// P17.2: of a topic that is longer than a text of a value nothing is promised; no pair that is no value comes.
func TestLongTopic(t *testing.T) {
	if got := show(Map(api.MapPair, strings.Repeat("x", api.MaxBytes+1), number(5))); got != "no value" {
		t.Errorf("%.100s", got)
	}
}

// P17.2: maps of anything.
func TestRandomMaps(t *testing.T) {
	r := newRandom(1)
	many := map[string]int{}
	for range 100000 {
		got := asSaid(t, 1+r.IntN(api.NumMaps-1), randomTopic(r), randomValue(r, 5))
		switch {
		case got.Err == api.ErrPanic:
			many[panicWords[got.Panic.Kind]]++
		case got.Has:
			many["answer"]++
		case got.Err == api.ErrMethod:
			many["none"]++
		}
	}
	for _, word := range []string{"assert", "nil", "answer", "none"} {
		if many[word] < 200 {
			t.Errorf("%s came %d times", word, many[word])
		}
	}
}
