package pipe

import (
	"slices"
	"strings"
	"testing"

	"conduit/api"
)

// byEachWay is the ends with Writes and Reads as they are and taken away.
func byEachWay(src api.Source, dst api.Sink, each func(src api.Source, dst api.Sink)) {
	unread, unwritten := dst, src
	unread.Inner.Reads, unread.Inner.Bulk = false, 0
	unwritten.Writes = false
	each(src, dst)
	each(src, unread)
	each(unwritten, dst)
	each(unwritten, unread)
}

// P36.7: ways change nothing.
func TestWaysChangeNothing(t *testing.T) {
	r := newRandom(2)
	var met [3]int
	for range 20000 {
		src, dst := smoothSource(r), smoothSink(r)
		src.Writes = true
		dst = reading(dst, 1+r.IntN(9))
		byEachWay(src, dst, func(src api.Source, dst api.Sink) {
			c := Copy(src, dst, 1+r.IntN(9))
			met[c.Way]++
			if c.N != int64(len(src.Data)) || c.Err != api.OK || c.Data != src.Data || c.Left != 0 {
				t.Fatalf("%+v %+v: %+v", src, dst, c)
			}
		})
	}
	if slices.Min(met[:]) < 1000 {
		t.Error(met)
	}
}

// P36.8: nothing is lost.
func TestNothingIsLost(t *testing.T) {
	r := newRandom(3)
	for range 30000 {
		src, dst := randomSource(r), randomSink(r)
		for _, c := range []api.Copied{Copy(src, dst, 1+r.IntN(9)), CopyN(src, dst, int64(r.IntN(20)-2), 1+r.IntN(9))} {
			if !strings.HasPrefix(src.Data, c.Data) || !dst.Inner.Over && c.N != int64(len(c.Data)) {
				t.Fatalf("%+v %+v: %+v", src, dst, c)
			}
		}
	}
}

// P36.9: a plain wrapper hides what its source or its sink can do by itself.
func TestHidden(t *testing.T) {
	r := newRandom(4)
	for range 20000 {
		src, dst, size := randomSource(r), randomSink(r), 1+r.IntN(9)
		hidden, shown := around(src, plain), src
		shown.Writes = !src.Writes
		if a, b := Copy(hidden, dst, size), Copy(around(shown, plain), dst, size); !sameCopied(a, b) || a.Way == api.WayWrites {
			t.Fatalf("%+v %+v: %+v, %+v", src, dst, a, b)
		}
		with, without := reading(dst, 1+r.IntN(9)), dst
		without.Inner.Reads, without.Inner.Bulk = false, 0
		if a, b := Copy(src, aroundTo(with, plain), size), Copy(src, aroundTo(without, plain), size); !sameCopied(a, b) || a.Way == api.WayReads {
			t.Fatalf("%+v %+v: %+v, %+v", src, dst, a, b)
		}
	}
}

// P36.10: a count anywhere changes nothing but Counts.
func TestCountChangesNothing(t *testing.T) {
	r := newRandom(5)
	for range 30000 {
		src, dst, size, n := randomSource(r), randomSink(r), 1+r.IntN(9), int64(r.IntN(20)-2)
		more, moreTo := src, dst
		i, j := r.IntN(len(src.Wraps)+1), r.IntN(len(dst.Wraps)+1)
		more.Wraps = slices.Insert(slices.Clone(src.Wraps), i, counter)
		moreTo.Wraps = slices.Insert(slices.Clone(dst.Wraps), j, counter)
		// Where a count was put in, its number stands among the others behind those of the counts below it.
		before, from := countsIn(src.Wraps[:i]), countsIn(src.Wraps)+countsIn(dst.Wraps[:j])
		for _, by := range []func(src api.Source, dst api.Sink) api.Copied{
			func(src api.Source, dst api.Sink) api.Copied { return Copy(src, dst, size) },
			func(src api.Source, dst api.Sink) api.Copied { return CopyN(src, dst, n, size) },
		} {
			c, a, b := by(src, dst), by(more, dst), by(src, moreTo)
			a.Counts, b.Counts = slices.Delete(a.Counts, before, before+1), slices.Delete(b.Counts, from, from+1)
			if !sameCopied(a, c) || !sameCopied(b, c) {
				t.Fatalf("%+v %+v: %+v, %+v, %+v", src, dst, c, a, b)
			}
		}
		if Way(src, dst) != Way(more, dst) || Way(src, dst) != Way(src, moreTo) {
			t.Fatalf("%+v %+v", src, dst)
		}
	}
}

func countsIn(l []api.Pipe) (n int) {
	for _, p := range l {
		if p.Op == api.PiCount {
			n++
		}
	}
	return n
}

// P36.11: no more than were asked for.
func TestNoMore(t *testing.T) {
	r := newRandom(6)
	for range 30000 {
		src, dst, n := randomSource(r), randomSink(r), int64(r.IntN(20))
		c := CopyN(src, dst, n, 1+r.IntN(30))
		if c.N > n || c.N < 0 || (c.Err == api.OK) != (c.N == n) || len(c.Data) > int(n) {
			t.Fatalf("%+v %+v %d: %+v", src, dst, n, c)
		}
	}
}
