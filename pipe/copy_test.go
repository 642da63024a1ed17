package pipe

import (
	"math"
	"slices"
	"strings"
	"testing"

	"conduit/api"
)

var abcde = api.Source{Data: "abcde"}

func writing(s api.Source) api.Source {
	s.Writes = true
	return s
}

func reading(s api.Sink, bulk int) api.Sink {
	s.Inner.Reads, s.Inner.Bulk = true, bulk
	return s
}

func inSink(s api.Sink0) api.Sink { return api.Sink{Inner: s} }

// P36.2: the source's way goes ahead of the sink's; all wrappers but a count hide.
func TestWay(t *testing.T) {
	both := [2]int{api.WayBuffer, api.WayReads}
	for i, dst := range []api.Sink{anySink, reading(anySink, 2)} {
		said := map[*api.Source]int{
			at(abcde):                                                 both[i],
			at(writing(abcde)):                                        api.WayWrites,
			at(writing(api.Source{Broken: true})):                     api.WayWrites,
			at(around(writing(abcde), counter, counter)):              api.WayWrites,
			at(around(abcde, counter)):                                both[i],
			at(around(writing(abcde), plain)):                         both[i],
			at(around(writing(abcde), limit(9))):                      both[i],
			at(around(writing(abcde), tee(any0))):                     both[i],
			at(around(writing(abcde), counter, plain)):                both[i],
			at(around(writing(abcde), limit(math.MaxInt64), counter)): both[i],
		}
		for src, way := range said {
			if Way(*src, dst) != way || Copy(*src, dst, 3).Way != way {
				t.Errorf("%+v %+v: %d", *src, dst, Way(*src, dst))
			}
		}
	}
	if Way(abcde, aroundTo(reading(anySink, 1), counter, counter)) != api.WayReads || Way(abcde, aroundTo(anySink, counter)) != api.WayBuffer {
		t.Error("counts around a sink")
	}
	if Way(abcde, aroundTo(reading(anySink, 1), counter, plain, counter)) != api.WayBuffer {
		t.Error("a plain wrapper around a sink")
	}
}

// P36.3: how a source is read: by its sizes in turn, by the buffer, to its end.
func TestReads(t *testing.T) {
	turns := api.Source{Data: "abcdefg", Sizes: []int{3, 0, 1}}
	is(t, Copy(turns, anySink, 9), 7, api.OK, api.WayBuffer, 5, 3, "abcdefg")
	is(t, Copy(turns, anySink, 2), 7, api.OK, api.WayBuffer, 8, 5, "abcdefg")
	turns.Early = true
	is(t, Copy(turns, anySink, 9), 7, api.OK, api.WayBuffer, 4, 3, "abcdefg")
	is(t, Copy(api.Source{}, anySink, 9), 0, api.OK, api.WayBuffer, 1, 0, "")
	is(t, Copy(api.Source{Early: true, Broken: true}, anySink, 9), 0, api.ErrSource, api.WayBuffer, 1, 0, "")
	is(t, Copy(api.Source{Data: "abc", Broken: true}, anySink, 2), 3, api.ErrSource, api.WayBuffer, 3, 2, "abc")
	is(t, Copy(api.Source{Data: "abc", Broken: true, Early: true}, anySink, 2), 3, api.ErrSource, api.WayBuffer, 2, 2, "abc")
}

// P36.3: what comes beside a source's error counts, and a sink's error goes ahead of it.
func TestFirstError(t *testing.T) {
	src := api.Source{Data: "abc", Broken: true, Early: true}
	is(t, Copy(src, inSink(api.Sink0{Room: 2}), 9), 2, api.ErrRoom, api.WayBuffer, 1, 1, "ab")
	is(t, Copy(src, inSink(api.Sink0{Room: -1, Sizes: []int{2}}), 9), 2, api.ErrShort, api.WayBuffer, 1, 1, "ab")
	is(t, Copy(src, inSink(api.Sink0{Room: -1, Over: true}), 9), 0, api.ErrInvalid, api.WayBuffer, 1, 1, "abc")
	is(t, Copy(src, inSink(api.Sink0{Room: 2, Over: true}), 9), 2, api.ErrRoom, api.WayBuffer, 1, 1, "ab")
	is(t, Copy(src, inSink(api.Sink0{Room: 3}), 9), 3, api.ErrSource, api.WayBuffer, 1, 1, "abc")
	is(t, Copy(src, inSink(api.Sink0{Room: 1, Sizes: []int{2}}), 9), 1, api.ErrRoom, api.WayBuffer, 1, 1, "a")
	is(t, Copy(src, inSink(api.Sink0{Room: 2, Sizes: []int{2}}), 9), 2, api.ErrShort, api.WayBuffer, 1, 1, "ab")
}

// P36.3: a sink's sizes go in turn, write by write.
func TestWrites(t *testing.T) {
	src := api.Source{Data: "abcdef", Sizes: []int{2}}
	is(t, Copy(src, inSink(api.Sink0{Room: -1, Sizes: []int{2, 2, 1}}), 9), 5, api.ErrShort, api.WayBuffer, 3, 3, "abcde")
	is(t, Copy(src, inSink(api.Sink0{Room: -1, Sizes: []int{2, 0}}), 9), 2, api.ErrShort, api.WayBuffer, 2, 2, "ab")
	is(t, Copy(src, inSink(api.Sink0{Room: 4}), 9), 4, api.ErrRoom, api.WayBuffer, 3, 3, "abcd")
	is(t, Copy(src, inSink(api.Sink0{}), 9), 0, api.ErrRoom, api.WayBuffer, 1, 1, "")
	is(t, Copy(api.Source{}, inSink(api.Sink0{}), 9), 0, api.OK, api.WayBuffer, 1, 0, "")
}

// P36.3: a source that writes by itself does so in one write, and says how many bytes are gone from it.
func TestWritesByItself(t *testing.T) {
	src := writing(api.Source{Data: "abcde", Sizes: []int{1}, Early: true})
	for _, s := range []struct {
		dst    api.Sink0
		broken bool
		n      int64
		e      api.Errno
		data   string
	}{
		{any0, false, 5, api.OK, "abcde"},
		{any0, true, 5, api.ErrSource, "abcde"},
		{api.Sink0{Room: 3}, true, 3, api.ErrRoom, "abc"},
		{api.Sink0{Room: 5}, false, 5, api.OK, "abcde"},
		{api.Sink0{Room: -1, Sizes: []int{4, 9}}, true, 4, api.ErrShort, "abcd"},
		{api.Sink0{Room: -1, Sizes: []int{0, 9}}, false, 0, api.ErrShort, ""},
		{api.Sink0{Room: -1, Over: true}, true, 5, api.ErrInvalid, "abcde"},
		{api.Sink0{Room: -1, Over: true, Sizes: []int{2}}, false, 5, api.ErrInvalid, "ab"},
		{api.Sink0{Room: 2, Over: true}, false, 2, api.ErrRoom, "ab"},
	} {
		src.Broken = s.broken
		c := Copy(src, aroundTo(inSink(s.dst), counter), 1)
		is(t, c, s.n, s.e, api.WayWrites, 0, 1, s.data)
		if c.Left != 5-int(s.n) {
			t.Errorf("%+v", c)
		}
	}
	is(t, Copy(writing(api.Source{}), inSink(api.Sink0{}), 1), 0, api.OK, api.WayWrites, 0, 0, "")
	is(t, Copy(writing(api.Source{Broken: true}), inSink(api.Sink0{Over: true}), 1), 0, api.ErrSource, api.WayWrites, 0, 0, "")
}

// P36.3: a sink that reads by itself takes all that it has room for; its sizes and Over play no part.
func TestReadsByItself(t *testing.T) {
	is(t, Copy(byTwos, reading(inSink(api.Sink0{Room: -1, Sizes: []int{1}, Over: true}), 9), 1), 5, api.OK, api.WayReads, 4, 0, "abcde")
	is(t, Copy(abcde, reading(anySink, 2), 9), 5, api.OK, api.WayReads, 4, 0, "abcde")
	is(t, Copy(byTwos, reading(inSink(api.Sink0{Room: 3}), 9), 1), 3, api.ErrRoom, api.WayReads, 2, 0, "abc")
	is(t, Copy(byTwos, reading(inSink(api.Sink0{Room: 4}), 9), 1), 4, api.ErrRoom, api.WayReads, 3, 0, "abcd")
	is(t, Copy(byTwos, reading(inSink(api.Sink0{Room: 5}), 9), 1), 5, api.OK, api.WayReads, 4, 0, "abcde")
	is(t, Copy(api.Source{}, reading(inSink(api.Sink0{}), 9), 1), 0, api.OK, api.WayReads, 1, 0, "")
	broken := api.Source{Data: "abcde", Broken: true, Early: true}
	is(t, Copy(broken, reading(anySink, 3), 9), 5, api.ErrSource, api.WayReads, 2, 0, "abcde")
	is(t, Copy(broken, reading(inSink(api.Sink0{Room: 4}), 3), 9), 4, api.ErrRoom, api.WayReads, 2, 0, "abcd")
	c := Copy(api.Source{Data: "abcdef", Sizes: []int{0, 4, 0}}, reading(inSink(api.Sink0{Room: 1}), 9), 1)
	if c.N != 1 || c.Err != api.ErrRoom || c.Reads != 2 || c.Left != 2 {
		t.Errorf("%+v", c)
	}
}

// P36.3: a limit gives EOF, whatever the source's end is, and asks below for no more than it lets through.
func TestLimit(t *testing.T) {
	broken := api.Source{Data: "abcde", Broken: true, Early: true}
	for _, n := range []int64{0, -1, math.MinInt64} {
		is(t, Copy(around(broken, limit(n)), anySink, 9), 0, api.OK, api.WayBuffer, 0, 0, "")
	}
	is(t, Copy(around(broken, limit(3)), anySink, 9), 3, api.OK, api.WayBuffer, 1, 1, "abc")
	is(t, Copy(around(broken, limit(3)), anySink, 2), 3, api.OK, api.WayBuffer, 2, 2, "abc")
	is(t, Copy(around(broken, limit(5)), anySink, 9), 5, api.ErrSource, api.WayBuffer, 1, 1, "abcde")
	is(t, Copy(around(broken, limit(math.MaxInt64)), reading(anySink, 2), 9), 5, api.ErrSource, api.WayReads, 3, 0, "abcde")
	is(t, Copy(around(broken, limit(4), limit(2), limit(3)), anySink, 9), 2, api.OK, api.WayBuffer, 1, 1, "ab")
	if c := Copy(around(writing(broken), limit(2)), anySink, 9); c.Left != 3 || c.Writes != 1 {
		t.Errorf("%+v", c)
	}
}

// P36.3: a tee writes what was read to its side; nothing is looked at but the side's error, which goes ahead.
func TestTee(t *testing.T) {
	for _, s := range []struct {
		side api.Sink0
		n    int64
		e    api.Errno
		has  string
		left int
	}{
		{any0, 5, api.ErrSource, "abcde", 0},
		{api.Sink0{Room: 5}, 5, api.ErrSource, "abcde", 0},
		{api.Sink0{Room: 3}, 3, api.ErrRoom, "abc", 1},
		{api.Sink0{Room: 4}, 4, api.ErrRoom, "abcd", 0},
		{api.Sink0{Room: 0}, 0, api.ErrRoom, "", 3},
		{api.Sink0{Room: -1, Over: true}, 5, api.ErrSource, "abcde", 0},
		{api.Sink0{Room: -1, Sizes: []int{1, 0}}, 5, api.ErrSource, "ae", 0},
	} {
		src := around(api.Source{Data: "abcde", Sizes: []int{2}, Early: true, Broken: true}, tee(s.side))
		c := Copy(src, anySink, 9)
		if c.N != s.n || c.Err != s.e || c.Data != "abcde"[:s.n] || !slices.Equal(c.Sides, []string{s.has}) || c.Left != s.left {
			t.Errorf("%+v: %+v", s.side, c)
		}
		c = Copy(src, reading(anySink, 9), 9)
		if c.N != s.n || c.Err != s.e || c.Data != "abcde"[:s.n] || !slices.Equal(c.Sides, []string{s.has}) || c.Way != api.WayReads {
			t.Errorf("%+v: %+v", s.side, c)
		}
	}
	c := Copy(around(abcde, tee(api.Sink0{Room: 4}), limit(3), tee(any0), plain, tee(api.Sink0{Room: 2})), anySink, 9)
	if !slices.Equal(c.Sides, []string{"abc", "abc", "ab"}) || c.N != 2 || c.Err != api.ErrRoom || c.Left != 2 {
		t.Errorf("%+v", c)
	}
	c = Copy(around(api.Source{Sizes: []int{0, 1}}, tee(api.Sink0{})), anySink, 9)
	if c.Err != api.OK || c.N != 0 || !slices.Equal(c.Sides, []string{""}) {
		t.Errorf("%+v", c)
	}
}

// P36.3: what each count has counted: the source's from the innermost one on, then the sink's.
func TestCounts(t *testing.T) {
	src := around(abcde, counter, tee(api.Sink0{Room: 4}), counter, limit(3), counter)
	c := Copy(src, aroundTo(inSink(api.Sink0{Room: -1, Sizes: []int{2}}), counter, plain, counter), 9)
	if !slices.Equal(c.Counts, []int64{3, 3, 3, 2, 2}) || c.Err != api.ErrShort {
		t.Errorf("%+v", c)
	}
	over := inSink(api.Sink0{Room: -1, Over: true})
	c = Copy(around(abcde, counter), aroundTo(over, counter), 2)
	if !slices.Equal(c.Counts, []int64{2, 3}) || c.N != 0 {
		t.Errorf("%+v", c)
	}
	c = Copy(around(writing(abcde), counter, counter), aroundTo(over, counter), 2)
	if !slices.Equal(c.Counts, []int64{5, 5, 6}) || c.N != 5 {
		t.Errorf("%+v", c)
	}
	c = Copy(around(writing(abcde), counter, plain, counter), aroundTo(reading(inSink(api.Sink0{Room: 3}), 2), counter, counter), 9)
	if !slices.Equal(c.Counts, []int64{4, 4, 3, 3}) || c.Way != api.WayReads {
		t.Errorf("%+v", c)
	}
}

// P36.3: the longest data, by the smallest buffer, through all wrappers that there may be.
func TestGreatest(t *testing.T) {
	data := strings.Repeat("abcdefg", api.MaxBytes/7)
	src := api.Source{Data: data, Sizes: append(many(0, 63), 1), Wraps: []api.Pipe{counter, tee(any0), limit(math.MaxInt64), plain, counter, tee(api.Sink0{Room: api.MaxBytes}), counter, plain}}
	dst := api.Sink{Inner: api.Sink0{Room: api.MaxBytes, Sizes: many(api.MaxBytes, 64)}, Wraps: many(counter, 8)}
	c := Copy(src, dst, 1)
	if c.N != int64(len(data)) || c.Data != data || c.Err != api.OK || c.Reads != 64*len(data)+1 || c.Writes != len(data) || c.Sides[1] != data || c.Counts[10] != c.N {
		t.Errorf("%d %v %d %d", c.N, c.Err, c.Reads, c.Writes)
	}
}

// P36.3: whatever the ends are, all is as Go's io does it.
func TestAsIo(t *testing.T) {
	r := newRandom(1)
	for range 60000 {
		src, dst := randomSource(r), randomSink(r)
		asSaid(t, src, dst, int64(r.IntN(26)-3), r.IntN(26)-3, 1+r.IntN(20))
	}
}

// A limit's buffer is no greater than what comes through.
func TestEnough(t *testing.T) {
	for _, s := range []struct {
		n          int64
		size, said int
	}{{3, 9, 3}, {9, 9, 9}, {10, 9, 9}, {1, 9, 1}, {0, 9, 1}, {math.MinInt64, 9, 1}, {math.MaxInt64, 1, 1}, {-1, 1, 1}} {
		if n := enough(&limitReader{nil, s.n}, s.size); n != s.said {
			t.Error(s, n)
		}
		if n := enough(plainReader{&limitReader{nil, s.n}}, s.size); n != s.size {
			t.Error(s, n)
		}
	}
}
