package pipe

import (
	"math"
	"testing"

	"conduit/api"
)

// P36.4: as many bytes as are asked for are no error, whatever came beside them; fewer are one.
func TestCopyN(t *testing.T) {
	for _, s := range []struct {
		src   api.Source
		dst   api.Sink
		n     int64
		e     api.Errno
		came  int64
		reads int
	}{
		{abcde, anySink, 5, api.OK, 5, 1},
		{abcde, anySink, 6, api.ErrEnd, 5, 2},
		{abcde, anySink, math.MaxInt64, api.ErrEnd, 5, 2},
		{abcde, anySink, 0, api.OK, 0, 0},
		{abcde, anySink, -1, api.OK, 0, 0},
		{abcde, anySink, math.MinInt64, api.OK, 0, 0},
		{api.Source{Data: "abcde", Broken: true, Early: true}, anySink, 5, api.OK, 5, 1},
		{api.Source{Data: "abcde", Broken: true, Early: true}, anySink, 6, api.ErrSource, 5, 1},
		{api.Source{Data: "abcde", Early: true}, anySink, 6, api.ErrEnd, 5, 1},
		{api.Source{}, anySink, 1, api.ErrEnd, 0, 1},
		{abcde, inSink(api.Sink0{Room: 3}), 4, api.ErrRoom, 3, 1},
		{abcde, inSink(api.Sink0{Room: 3}), 3, api.OK, 3, 1},
		{abcde, reading(inSink(api.Sink0{Room: 3}), 2), 3, api.OK, 3, 2},
		{abcde, reading(inSink(api.Sink0{Room: 3}), 2), 4, api.ErrRoom, 3, 2},
		{abcde, inSink(api.Sink0{Room: -1, Sizes: []int{2}}), 3, api.ErrShort, 2, 1},
		{abcde, inSink(api.Sink0{Room: -1, Over: true}), 3, api.ErrInvalid, 0, 1},
		{writing(abcde), anySink, 3, api.OK, 3, 1},
		{around(abcde, limit(2)), anySink, 3, api.ErrEnd, 2, 1},
		{around(abcde, many(counter, 8)...), anySink, 4, api.OK, 4, 1},
	} {
		c := CopyN(s.src, s.dst, s.n, 9)
		if c.N != s.came || c.Err != s.e || c.Reads != s.reads || c.Way == api.WayWrites {
			t.Errorf("%+v %+v %d: %+v", s.src, s.dst, s.n, c)
		}
	}
	c := CopyN(around(abcde, tee(any0), counter), aroundTo(reading(anySink, 9), counter), 3, 1)
	if c.Way != api.WayReads || c.Left != 2 || c.Sides[0] != "abc" || c.Counts[0] != 3 || c.Counts[1] != 3 || c.Data != "abc" {
		t.Errorf("%+v", c)
	}
}

// P36.5: read until there are as many as are wanted, and no more often.
func TestReadAtLeast(t *testing.T) {
	broken := api.Source{Data: "abc", Broken: true, Early: true}
	for _, s := range []struct {
		src         api.Source
		least, size int
		said        string
		e           api.Errno
	}{
		{byTwos, 1, 9, "ab", api.OK},
		{byTwos, 2, 9, "ab", api.OK},
		{byTwos, 3, 9, "abcd", api.OK},
		{byTwos, 3, 3, "abc", api.OK},
		{byTwos, 5, 9, "abcde", api.OK},
		{byTwos, 6, 9, "abcde", api.ErrEnd},
		{byTwos, 9, 9, "abcde", api.ErrEnd},
		{byTwos, 10, 9, "", api.ErrSmall},
		{byTwos, math.MaxInt64, 9, "", api.ErrSmall},
		{byTwos, 0, 9, "", api.OK},
		{byTwos, -1, 9, "", api.OK},
		{byTwos, math.MinInt64, 1, "", api.OK},
		{broken, 3, 9, "abc", api.OK},
		{broken, 4, 9, "abc", api.ErrSource},
		{broken, 4, 3, "", api.ErrSmall},
		{api.Source{Broken: true}, 1, 9, "", api.ErrSource},
		{api.Source{}, 1, 1, "", api.ErrNone},
		{api.Source{}, 0, 1, "", api.OK},
		{api.Source{Data: "abc", Sizes: []int{0, 0, 2}}, 1, 9, "ab", api.OK},
		{writing(byTwos), 3, 9, "abcd", api.OK},
		{around(broken, limit(2)), 3, 9, "ab", api.ErrEnd},
		{around(broken, limit(0)), 3, 9, "", api.ErrNone},
		{around(broken, tee(api.Sink0{Room: 2})), 3, 9, "ab", api.ErrRoom},
		{around(broken, tee(api.Sink0{Room: 2})), 2, 9, "ab", api.OK},
		{around(broken, tee(api.Sink0{})), 1, 9, "", api.ErrRoom},
	} {
		if got, e := ReadAtLeast(s.src, s.least, s.size); got != s.said || e != s.e {
			t.Errorf("%+v %d %d: %q %v", s.src, s.least, s.size, got, e)
		}
	}
}

// P36.6: all that comes, until an error does.
func TestAll(t *testing.T) {
	for _, size := range []int{1, 2, 3, 9, api.MaxBytes} {
		for _, s := range []struct {
			src  api.Source
			said string
			e    api.Errno
		}{
			{byTwos, "abcde", api.OK},
			{writing(byTwos), "abcde", api.OK},
			{api.Source{}, "", api.OK},
			{api.Source{Broken: true}, "", api.ErrSource},
			{api.Source{Data: "abc", Broken: true}, "abc", api.ErrSource},
			{api.Source{Data: "abc", Broken: true, Early: true, Sizes: []int{0, 2}}, "abc", api.ErrSource},
			{around(api.Source{Data: "abc", Broken: true}, limit(2)), "ab", api.OK},
			{around(byTwos, tee(api.Sink0{Room: 3})), "abc", api.ErrRoom},
			{around(byTwos, tee(api.Sink0{})), "", api.ErrRoom},
		} {
			if got, e := All(s.src, size); got != s.said || e != s.e {
				t.Errorf("%+v %d: %q %v", s.src, size, got, e)
			}
		}
	}
}
