package built

import (
	"testing"

	"conduit/api"
)

// The chapter's example 1.
func TestExampleRetry(t *testing.T) {
	play(t, "fail 3 with retry 4", "7 1 => 7=code 3*")
	play(t, "count with retry 4", "7 1 => 7=1*", "8 1 => 8=2*")
}

// The chapter's example 2.
func TestExampleBuffer(t *testing.T) {
	st := play(t, "count with buffer 2 0", "1 nil => -", "2 nil => 1=1, 2=2*", "3 nil => -", "flush nil => 1 beside 3=3", "flush nil => 0")
	if len(Held(st)) != 0 || st.Core.Count != 3 {
		t.Error(st)
	}
}

// The chapter's example 3.
func TestExampleBreaker(t *testing.T) {
	play(t, "fail 1 with breaker 2 10", "1 1 => 1=code 1*", "2 1 => 2=code 1*", "3 1 => 3=error 140*", "ping nil => error 140", "at 10", "4 1 => 4=code 1*", "at 11", "5 1 => 5=error 140*")
}

// The chapter's example 4; save is one of a core that may have it.
func TestExampleHide(t *testing.T) {
	play(t, "count caps save with open hide", "1 1 => 1=1*", "save nil => error 201", "deep save nil => ([1, 0, 0, false], (nil, []))", "open nil => \"count\"")
	play(t, "echo caps name with open hide", "name nil => error 201", "deep name nil => \"echo\"", "open nil => \"echo\"")
}

// The chapter's example 5.
func TestExampleShapes(t *testing.T) {
	play(t, "sum with map:double with filter when int", `1 "x" => 1=error 171*`, "2 4 => 2=8*", "3 1 => 3=10*")
	play(t, "size with dedup 3", `1 "ab" => 1=2*`, `1 "ab" => 1=error 150*`, `2 "" => 2=0*`)
}

// The document's examples 2, 3, 4, 7 and 10 of the whole.
func TestExamplesOfTheWhole(t *testing.T) {
	play(t, "unbox", "1 &nil => 1=panic nil 0*", "2 5 => 2=panic assert 3*", `3 &2("t") => 3="t"*`)
	play(t, "store caps flush, save with mask caps save", "1 5 => 1=0*", "flush nil => error 201", "deep flush nil => error 201")
	play(t, "store caps flush, save with open mask caps save", "1 5 => 1=0*", "flush nil => error 201", "deep flush nil => 1", "1 6 => 1=0*")
	play(t, "echo with buffer 3 0", "1 5 => -", "2 6 => -", "3 7 => 1=5, 2=6, 3=7*")
	play(t, "echo caps close with buffer 3 0", "1 5 => -", "2 6 => -", "flush nil => 2 beside 1=5, 2=6", "close nil => none", "3 5 => -", "flush nil => 1 beside 3=error 200")
	play(t, "fail 3 with retry 4 with breaker 2 10", "1 1 => 1=code 3*", "2 1 => 2=code 3*", "at 9", "3 1 => 3=error 140*", "at 10", "4 1 => 4=code 3*", "at 19", "5 1 => 5=error 140*")
	play(t, "sum", "1 1 => 1=1*", `2 "x" => 2=code 2*`, "3 f3ff0000000000000 => 3=panic assert 3*", "4 2 => 4=3*")
}

// How often a core is tried, is told by those around it that count.
func TestExampleRetryCounts(t *testing.T) {
	st := play(t, "fail 3 with limit 1000 1 with retry 4", "1 1 => 1=code 3*")
	if st.Wraps[0].Limit != (api.Limit{Level: 996}) {
		t.Error(st)
	}
	st = play(t, "count with limit 1000 1 with retry 4", "1 1 => 1=1*")
	if st.Wraps[0].Limit != (api.Limit{Level: 999}) {
		t.Error(st)
	}
}
