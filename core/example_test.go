package core

import (
	"testing"

	"conduit/api"
)

// The chapter's example 1.
func TestExampleStore(t *testing.T) {
	play(t, "store", api.CoreState{}, "1 => 0", "#1 => 1", "1 => 0", "f8000000000000000 => 2", "f0000000000000000 => 2")
	play(t, "store", api.CoreState{}, "f7ff8000000000001 => 0", "f7ff8000000000001 => 1")
	play(t, "store", api.CoreState{}, "(1, [2]) => panic compare 0")
	play(t, "store 1", api.CoreState{}, "5 => 0", "6 => code 1")
}

// The chapter's example 2, and the document's example 10 of the whole.
func TestExampleSum(t *testing.T) {
	st := play(t, "sum", api.CoreState{}, "1 => 1", "2 => 3", "f3ff0000000000000 => panic assert 3", `"x" => code 2`)
	if !sameState(st, api.CoreState{Count: 2, Last: number(3)}) {
		t.Error(st)
	}
	play(t, "sum", api.CoreState{}, "1 => 1", `"x" => code 2`, "f3ff0000000000000 => panic assert 3", "2 => 3")
}

// The chapter's example 3, and the document's example 2 of the whole.
func TestExampleUnbox(t *testing.T) {
	play(t, "unbox", api.CoreState{}, "&nil => panic nil 0", "5 => panic assert 3", "nil => panic assert -1", `&2("x") => "x"`)
	play(t, "nth -1", api.CoreState{}, "[1] => panic index -1")
	play(t, "unbox", api.CoreState{}, "&nil => panic nil 0", "5 => panic assert 3", `&2("t") => "t"`)
}

// The chapter's example 4.
func TestExampleNone(t *testing.T) {
	for _, s := range leafTexts {
		play(t, "none", api.CoreState{}, s+" => error 101")
	}
	play(t, "panic -3", api.CoreState{}, "1 => panic error -3")
}

// The chapter's example 5.
func TestExampleFail(t *testing.T) {
	st := play(t, "fail 7 caps close", api.CoreState{}, "close: nil => code 7", "close: nil => error 200")
	if !st.Closed {
		t.Error(st)
	}
}

// The document's example 1 of the whole.
func TestExampleCount(t *testing.T) {
	play(t, "count", api.CoreState{}, `"x" => 1`, "nil => 2")
}
