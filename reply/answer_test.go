package reply

import (
	"math"
	"slices"
	"testing"

	"conduit/api"
)

// three is requests with gaps between their numbers, two of them on one topic.
func three() api.Asks {
	st := of(api.Ask{Corr: 2, Until: 5, Topic: "a"}, api.Ask{Corr: 5, Until: 0, Topic: "b"}, api.Ask{Corr: 9, Until: 7, Topic: "a"})
	st.Next = 11
	return st
}

// P23.2: both the number and the topic must be those of one request; the last tick itself is in time, the one behind it is late; 0 is never late.
func TestAnswerTurns(t *testing.T) {
	for i, c := range []struct {
		st    api.Asks
		corr  int64
		topic string
		now   int64
		err   api.Errno
		left  []int64
	}{
		{api.Asks{}, 1, "r", 0, api.ErrReply, nil},
		{api.Asks{}, 0, "", 0, api.ErrReply, nil},
		{api.Asks{Next: 3, Wait: []api.Ask{}}, 3, "r", 0, api.ErrReply, nil},
		{three(), 2, "a", 0, api.OK, []int64{5, 9}},
		{three(), 2, "a", 4, api.OK, []int64{5, 9}},
		{three(), 2, "a", 5, api.OK, []int64{5, 9}},
		{three(), 2, "a", 6, api.ErrLate, []int64{5, 9}},
		{three(), 2, "a", api.MaxTick, api.ErrLate, []int64{5, 9}},
		{three(), 5, "b", 0, api.OK, []int64{2, 9}},
		{three(), 5, "b", 99, api.OK, []int64{2, 9}},
		{three(), 5, "b", math.MaxInt64, api.OK, []int64{2, 9}},
		{three(), 9, "a", 7, api.OK, []int64{2, 5}},
		{three(), 9, "a", 8, api.ErrLate, []int64{2, 5}},
		{three(), 2, "b", 0, api.ErrReply, []int64{2, 5, 9}},
		{three(), 2, "b", 99, api.ErrReply, []int64{2, 5, 9}},
		{three(), 5, "a", 0, api.ErrReply, []int64{2, 5, 9}},
		{three(), 2, "", 0, api.ErrReply, []int64{2, 5, 9}},
		{three(), 2, "A", 0, api.ErrReply, []int64{2, 5, 9}},
		{three(), 2, "a/", 0, api.ErrReply, []int64{2, 5, 9}},
		{three(), 2, "+", 0, api.ErrReply, []int64{2, 5, 9}},
		{three(), 2, "#", 0, api.ErrReply, []int64{2, 5, 9}},
		{three(), 1, "a", 0, api.ErrReply, []int64{2, 5, 9}},
		{three(), 0, "a", 0, api.ErrReply, []int64{2, 5, 9}},
		{three(), -2, "a", 0, api.ErrReply, []int64{2, 5, 9}},
		{three(), 11, "a", 0, api.ErrReply, []int64{2, 5, 9}},
		{three(), 12, "a", 0, api.ErrReply, []int64{2, 5, 9}},
		{three(), 2 + 1<<32, "a", 0, api.ErrReply, []int64{2, 5, 9}},
		{three(), math.MaxInt64, "a", 0, api.ErrReply, []int64{2, 5, 9}},
		{three(), math.MinInt64, "a", 0, api.ErrReply, []int64{2, 5, 9}},
		{three(), 2, "a", -1, api.OK, []int64{5, 9}},
		{three(), 2, "a", math.MinInt64, api.OK, []int64{5, 9}},
		{three(), 2, "a", math.MaxInt64, api.ErrLate, []int64{5, 9}},
		{until(1), 1, "r", 1, api.OK, nil},
		{until(1), 1, "r", 2, api.ErrLate, nil},
		{until(api.MaxTick), 1, "r", api.MaxTick, api.OK, nil},
		{until(api.MaxTick - 1), 1, "r", api.MaxTick, api.ErrLate, nil},
		{of(api.Ask{Corr: greatest, Topic: "r"}), greatest, "r", 4, api.OK, nil},
		{of(api.Ask{Corr: 4}), 4, "", 4, api.OK, nil},
	} {
		got, e := answerAsSaid(t, c.st, c.corr, c.topic, c.now)
		if e != c.err || !slices.Equal(corrsOf(got.Wait), c.left) || got.Next != c.st.Next {
			t.Errorf("%d: %s, %v", i, show(got), e)
		}
	}
}

// P23.2: small states, all of them, with all small numbers and ticks.
func TestAnswerSmall(t *testing.T) {
	for long := range 4 {
		eachRow(long, 8, func(row []int64) {
			st := api.Asks{Next: int64(long) + 1}
			for i, n := range row {
				st.Wait = append(st.Wait, api.Ask{Corr: int64(i + 1), Until: n / 2, Topic: []string{"a", "b"}[n%2]})
			}
			for corr := range int64(long + 3) {
				for now := range int64(5) {
					answerAsSaid(t, st, corr, "a", now)
				}
			}
		})
	}
}

// P23.2: each of as many as may wait.
func TestAnswerGreat(t *testing.T) {
	st := until(make([]int64, api.MaxAsks)...)
	for corr := int64(-1); corr < api.MaxAsks+3; corr++ {
		want := api.OK
		if corr < 1 || corr > api.MaxAsks {
			want = api.ErrReply
		}
		if _, e := answerAsSaid(t, st, corr, "r", corr); e != want {
			t.Fatal(corr, e)
		}
	}
}

// P23.2: any states.
func TestAnswerRandom(t *testing.T) {
	r := newRandom(2)
	count := map[api.Errno]int{}
	for range 60000 {
		st := randomState(r, 12)
		corr, topic := randomAnswer(r, st)
		_, e := answerAsSaid(t, st, corr, topic, randomTick(r))
		count[e]++
	}
	if min(count[api.OK], count[api.ErrLate], count[api.ErrReply]) < 1000 {
		t.Error(count)
	}
}
