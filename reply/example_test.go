package reply

import (
	"testing"

	"conduit/api"
)

// opened is a state behind Open, which must go well and give the number n.
func opened(t *testing.T, st api.Asks, until, n int64) api.Asks {
	t.Helper()
	got, number, e := openAsSaid(t, st, "r", until)
	if number != n || e != api.OK {
		t.Fatal(number, e)
	}
	return got
}

// The chapter's example 1.
func TestExampleAnswered(t *testing.T) {
	st := opened(t, opened(t, api.Asks{}, 5, 1), 0, 2)
	for i, c := range []struct {
		corr  int64
		topic string
		now   int64
		err   api.Errno
		left  int
	}{
		{1, "x", 5, api.ErrReply, 2},
		{1, "r", 5, api.OK, 1},
		{1, "r", 5, api.ErrReply, 1},
		{2, "r", 99, api.OK, 0},
	} {
		var e api.Errno
		if st, e = answerAsSaid(t, st, c.corr, c.topic, c.now); e != c.err || len(st.Wait) != c.left {
			t.Errorf("%d: %s, %v", i, show(st), e)
		}
	}
}

// The chapter's example 2.
func TestExampleLate(t *testing.T) {
	st := opened(t, api.Asks{}, 5, 1)
	if left, e := answerAsSaid(t, st, 1, "r", 6); e != api.ErrLate || len(left.Wait) != 0 {
		t.Error(show(left), e)
	}
	left, late := expireAsSaid(t, st, 6)
	if len(late) != 1 || late[0] != (api.Ask{Corr: 1, Until: 5, Topic: "r"}) || len(left.Wait) != 0 {
		t.Error(show(left), late)
	}
}
