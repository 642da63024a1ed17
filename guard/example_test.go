package guard

import (
	"slices"
	"testing"

	"conduit/api"
)

// tried is one act, as texts, and what is to come of it.
type tried struct {
	op   int
	a, b string
	n    int64
	want string
}

func (c tried) act(t testing.TB) api.Act {
	t.Helper()
	return api.Act{Op: c.op, A: read(t, c.a), B: read(t, c.b), N: c.n}
}

// play does acts, each alone, and holds what comes against what is written and against the chapter.
func play(t *testing.T, l ...tried) {
	t.Helper()
	for _, c := range l {
		if got := show(asSaid(t, c.act(t))); got != c.want {
			t.Errorf("%+v: %s", c, got)
		}
	}
}

// The chapter's example 1.
func TestExampleAssert(t *testing.T) {
	play(t,
		tried{api.ActAssert, `"a"`, "", api.KInt, "panic assert 4"},
		tried{api.ActAssert, `"a"`, "", api.KText, `"a"`},
		tried{api.ActFace, "5", "", api.FSized, "panic assert 0"},
		tried{api.ActFace, "nil", "", api.FSized, "panic assert -1"},
		tried{api.ActFace, "5", "", api.FWhole, "panic assert 0"},
	)
	if api.KText != 4 || api.MSize != 0 {
		t.Error("the numbers that are written above")
	}
}

// The chapter's example 2.
func TestExampleOpen(t *testing.T) {
	play(t,
		tried{api.ActOpen, "&nil", "", 0, "panic nil 0"},
		tried{api.ActOpen, "3", "", 0, "panic assert 3"},
		tried{api.ActIndex, "[1, 2]", "", 2, "panic index 2"},
		tried{api.ActIndex, "[1, 2]", "", -1, "panic index -1"},
	)
	if api.MOpen != 3 {
		t.Error("the number that is written above")
	}
}

// The chapter's example 3.
func TestExampleCompare(t *testing.T) {
	play(t,
		tried{api.ActCompare, "([1], 2)", "([1], 2)", 0, "panic compare 0"},
		tried{api.ActSize, "true", "", 0, "no method"},
		tried{api.ActSize, "&nil", "", 0, "0"},
	)
}

// The chapter's example 4.
func TestExampleRun(t *testing.T) {
	l := []api.Act{{Op: api.ActGive, A: read(t, "1")}, {Op: api.ActOwn, N: 7}, {Op: api.ActGive, A: read(t, "2")}}
	results, places := runAsSaid(t, l)
	if len(results) != 2 || show(results[0]) != "1" || show(results[1]) != "panic own 7" || !slices.Equal(places, []int{1, 0}) {
		t.Error(results, places)
	}
}

// The document's example 2 of the whole.
func TestExampleUnbox(t *testing.T) {
	play(t,
		tried{api.ActOpen, "&nil", "", 0, "panic nil 0"},
		tried{api.ActOpen, "5", "", 0, "panic assert 3"},
		tried{api.ActOpen, `&2("t")`, "", 0, `"t"`},
	)
}
