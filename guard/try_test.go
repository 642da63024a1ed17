package guard

import (
	"testing"

	"conduit/api"
	"conduit/datum"
)

// numbers is all that may be one of a sort, and some on both sides that are none.
func numbers(many int) []int64 {
	l := []int64{-1 << 63, -1 << 32, -100, -2, -1}
	for n := range int64(many) + 3 {
		l = append(l, n)
	}
	return append(l, 31, 32, 64, 100, 1<<32, 1<<32+1, 1<<62, 1<<63-1)
}

// P11.1: what is given is what comes, whatever it is.
func TestGive(t *testing.T) {
	for _, d := range values() {
		a := api.Act{Op: api.ActGive, A: d, B: read(t, "[1]"), N: 7}
		if got := asSaid(t, a); show(got) != datum.Print(d) {
			t.Errorf("%s: %s", showAct(a), show(got))
		}
	}
}

// P11.1: every value to every kind, and to what is none.
func TestAssert(t *testing.T) {
	for _, d := range values() {
		for _, n := range numbers(api.NumKinds) {
			asSaid(t, api.Act{Op: api.ActAssert, A: d, N: n})
		}
	}
	play(t,
		tried{api.ActAssert, "&nil", "", api.KPtr, "&nil"},
		tried{api.ActAssert, "&nil", "", api.KNoPtr, "&nil"},
		tried{api.ActAssert, "&1(5)", "", api.KPtr, "&1(5)"},
		tried{api.ActAssert, "&1(5)", "", api.KNoPtr, "panic assert 11"},
		tried{api.ActAssert, "nil", "", api.KNil, "panic assert 0"},
		tried{api.ActAssert, "5", "", api.KNil, "panic assert 1"},
		tried{api.ActAssert, "5", "", api.KInt + 1<<32, "panic assert 1"},
		tried{api.ActAssert, "5", "", -1, "panic assert 1"},
		tried{api.ActAssert, "#5", "", api.KInt, "panic assert 2"},
		tried{api.ActAssert, "f7ff0000000000001", "", api.KFloat, "f7ff0000000000001"},
		tried{api.ActAssert, "{}", "", api.KUnit, "{}"},
		tried{api.ActAssert, "{}", "", api.NumKinds, "panic assert 13"},
	)
}

// P11.1: every value to every interface, and to what is none.
func TestFace(t *testing.T) {
	for _, d := range values() {
		for _, n := range numbers(api.NumFaces) {
			asSaid(t, api.Act{Op: api.ActFace, A: d, N: n})
		}
	}
	play(t,
		tried{api.ActFace, `@"n"`, "", api.FWhole, `@"n"`},
		tried{api.ActFace, `"n"`, "", api.FWhole, "panic assert 1"},
		tried{api.ActFace, "[1, [2]]", "", api.FSized, "[1, [2]]"},
		tried{api.ActFace, "[1, [2]]", "", api.FMeasured, "panic assert 4"},
		tried{api.ActFace, "&nil", "", api.FOpening, "&nil"},
		tried{api.ActFace, "5", "", api.FNumber, "5"},
		tried{api.ActFace, "5", "", api.NumFaces, "panic assert -1"},
		tried{api.ActFace, "5", "", -1, "panic assert -1"},
		tried{api.ActFace, "nil", "", api.NumFaces, "panic assert -1"},
	)
}

// P11.1: every place of a list, those on both sides of it, and what is no list.
func TestIndex(t *testing.T) {
	for _, d := range values() {
		for _, n := range numbers(3) {
			asSaid(t, api.Act{Op: api.ActIndex, A: d, N: n})
		}
	}
	play(t,
		tried{api.ActIndex, "[1, [2, 3]]", "", 0, "1"},
		tried{api.ActIndex, "[1, [2, 3]]", "", 1, "[2, 3]"},
		tried{api.ActIndex, "[nil]", "", 0, "nil"},
		tried{api.ActIndex, "[]", "", 0, "panic index 0"},
		tried{api.ActIndex, "[1, 2]", "", 1 << 32, "panic index 4294967296"},
		tried{api.ActIndex, "[1, 2]", "", -1 << 63, "panic index -9223372036854775808"},
		tried{api.ActIndex, "(1, 2)", "", 0, "panic assert 9"},
		tried{api.ActIndex, "nil", "", 9, "panic assert 0"},
		tried{api.ActIndex, "&nil", "", 0, "panic assert 12"},
	)
}

// P11.1: only pointers are opened, and a nil one panics.
func TestOpen(t *testing.T) {
	for _, d := range values() {
		asSaid(t, api.Act{Op: api.ActOpen, A: d, N: 1})
	}
	play(t,
		tried{api.ActOpen, "&2([1, &2(7)])", "", 0, "[1, &2(7)]"},
		tried{api.ActOpen, "&2(&nil)", "", 0, "&nil"},
		tried{api.ActOpen, "&2(nil)", "", 0, "nil"},
		tried{api.ActOpen, "nil", "", 0, "panic assert -1"},
		tried{api.ActOpen, `!3"e"`, "", 0, "panic assert 3"},
	)
}

// P11.1: each value against each.
func TestCompare(t *testing.T) {
	for _, a := range values() {
		for _, b := range values() {
			asSaid(t, api.Act{Op: api.ActCompare, A: a, B: b, N: 1})
		}
	}
	play(t,
		tried{api.ActCompare, "nil", "nil", 0, "true"},
		tried{api.ActCompare, "nil", "&nil", 0, "false"},
		tried{api.ActCompare, "&nil", "&nil", 0, "true"},
		tried{api.ActCompare, "1", "#1", 0, "false"},
		tried{api.ActCompare, "f7ff8000000000001", "f7ff8000000000001", 0, "false"},
		tried{api.ActCompare, "f8000000000000000", "f0000000000000000", 0, "true"},
		tried{api.ActCompare, "&1([1])", "&1(5)", 0, "true"},
		tried{api.ActCompare, "&1(5)", "&2(5)", 0, "false"},
		tried{api.ActCompare, "[1]", "[1]", 0, "panic compare 0"},
		tried{api.ActCompare, "[1]", "%00", 0, "false"},
		tried{api.ActCompare, "%", "%", 0, "panic compare 0"},
		tried{api.ActCompare, "(1, [2])", "(2, [2])", 0, "false"},
		tried{api.ActCompare, "(1, [2])", "(1, [2])", 0, "panic compare 0"},
		tried{api.ActCompare, "([2], 1)", "([2], 2)", 0, "panic compare 0"},
		tried{api.ActCompare, `([2], 1)`, `([2], "x")`, 0, "panic compare 0"},
		tried{api.ActCompare, "([2], 1)", "(%00, 1)", 0, "false"},
	)
}

// P11.1: what is left is cut towards 0; what is no int is told, the first one first.
func TestDivide(t *testing.T) {
	for _, a := range values() {
		for _, b := range values() {
			asSaid(t, api.Act{Op: api.ActDivide, A: a, B: b, N: 3})
		}
	}
	for a := int64(-30); a <= 30; a++ {
		for b := int64(-8); b <= 8; b++ {
			asSaid(t, api.Act{Op: api.ActDivide, A: number(a), B: number(b)})
		}
	}
	play(t,
		tried{api.ActDivide, "7", "2", 0, "3"},
		tried{api.ActDivide, "-7", "2", 0, "-3"},
		tried{api.ActDivide, "7", "-2", 0, "-3"},
		tried{api.ActDivide, "-7", "-2", 0, "3"},
		tried{api.ActDivide, "-9223372036854775808", "-1", 0, "-9223372036854775808"},
		tried{api.ActDivide, "-9223372036854775808", "9223372036854775807", 0, "-1"},
		tried{api.ActDivide, "0", "5", 0, "0"},
		tried{api.ActDivide, "0", "0", 0, "panic divide 0"},
		tried{api.ActDivide, "-9223372036854775808", "0", 0, "panic divide 0"},
		tried{api.ActDivide, "#7", "0", 0, "panic assert 2"},
		tried{api.ActDivide, "7", "true", 0, "panic assert 6"},
		tried{api.ActDivide, `"a"`, "true", 0, "panic assert 4"},
		tried{api.ActDivide, "nil", "nil", 0, "panic assert 0"},
	)
}

// P11.1: panics of one's own, with every number.
func TestOwnPanics(t *testing.T) {
	for _, n := range numbers(3) {
		asSaid(t, api.Act{Op: api.ActOwn, A: read(t, "5"), N: n})
		asSaid(t, api.Act{Op: api.ActError, A: read(t, "5"), N: n})
	}
	play(t,
		tried{api.ActOwn, "", "", 0, "panic own 0"},
		tried{api.ActOwn, "", "", -7, "panic own -7"},
		tried{api.ActError, "", "", 0, "panic error 0"},
		tried{api.ActError, "", "", 9223372036854775807, "panic error 9223372036854775807"},
	)
}

// P11.1: the size of what has one; else no panic.
func TestSize(t *testing.T) {
	for _, d := range values() {
		asSaid(t, api.Act{Op: api.ActSize, A: d, B: read(t, `"bb"`), N: 4})
	}
	play(t,
		tried{api.ActSize, `"ab"`, "", 0, "2"},
		tried{api.ActSize, "%00ff01", "", 0, "3"},
		tried{api.ActSize, "[1, [2, 3, 4]]", "", 0, "2"},
		tried{api.ActSize, "(1, 2)", "", 0, "2"},
		tried{api.ActSize, "&1([1, 2, 3])", "", 0, "1"},
		tried{api.ActSize, "nil", "", 0, "no method"},
		tried{api.ActSize, `!3"abc"`, "", 0, "no method"},
	)
}

// P11.1: what is no act does nothing.
func TestNoAct(t *testing.T) {
	for _, n := range numbers(0) {
		if n >= api.ActGive && n < api.NumActs {
			continue
		}
		a := api.Act{Op: int(n), A: read(t, "[1]"), B: read(t, "2"), N: 1}
		if got := asSaid(t, a); show(got) != "no method" {
			t.Errorf("%s: %s", showAct(a), show(got))
		}
	}
}

// P11.1: values that are as great as they may be.
func TestGreatValues(t *testing.T) {
	deep, wide := read(t, "1"), api.Datum{Kind: api.KList}
	for range api.MaxDeep - 1 {
		deep = api.Datum{Kind: api.KPair, List: []api.Datum{number(1), deep}}
	}
	for i := range int64(api.MaxItems) - 1 {
		wide.List = append(wide.List, number(i))
	}
	for _, d := range []api.Datum{deep, wide} {
		if !datum.Valid(d) {
			t.Fatal("a value that is none")
		}
		for op := range api.NumActs {
			for _, n := range []int64{0, api.KList, api.KPair, api.MaxItems - 2, api.MaxItems - 1} {
				asSaid(t, api.Act{Op: op, A: d, B: copied(d), N: n})
			}
		}
	}
}

// P11.1: acts of every kind with anything.
func TestRandomActs(t *testing.T) {
	r := newRandom(1)
	many := map[string]int{}
	for range 100000 {
		a := randomAct(r)
		got := asSaid(t, a)
		switch {
		case got.Err == api.ErrPanic:
			many[panicWords[got.Panic.Kind]]++
		case got.Has:
			many["answer"]++
		default:
			many["none"]++
		}
	}
	for _, word := range append(panicWords[1:], "answer", "none") {
		if many[word] < 500 {
			t.Errorf("%s came %d times", word, many[word])
		}
	}
}
