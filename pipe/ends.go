package pipe

import "conduit/api"

// wrappedSource is a source in its wrappers: the outermost one, which is asked, and those parts of which is told what has become of them.
type wrappedSource struct {
	outer  reader
	inner  *source
	sides  []*sink
	counts []*tally
}

type wrappedSink struct {
	outer  writer
	inner  *sink
	counts []*tally
}

func sourceOf(s api.Source) *wrappedSource {
	inner := &source{left: s.Data, sizes: s.Sizes, early: s.Early, end: errEOF}
	if s.Broken {
		inner.end = errSource
	}
	all := &wrappedSource{outer: inner, inner: inner}
	if s.Writes {
		all.outer = writingSource{inner}
	}
	for _, p := range s.Wraps {
		all.wrap(p)
	}
	return all
}

func (s *wrappedSource) wrap(p api.Pipe) {
	switch p.Op {
	case api.PiPlain:
		s.outer = plainReader{s.outer}
	case api.PiCount:
		t := &tally{}
		s.counts = append(s.counts, t)
		s.outer = countingReader(s.outer, t)
	case api.PiLimit:
		s.outer = &limitReader{s.outer, p.N}
	case api.PiTee:
		side := innerSink(p.Side)
		s.sides = append(s.sides, side)
		s.outer = teeReader{s.outer, side}
	}
}

func sinkOf(s api.Sink) *wrappedSink {
	inner := innerSink(s.Inner)
	all := &wrappedSink{outer: inner, inner: inner}
	if s.Inner.Reads {
		all.outer = readingSink{inner, s.Inner.Bulk}
	}
	for _, p := range s.Wraps {
		all.wrap(p)
	}
	return all
}

func innerSink(s api.Sink0) *sink { return &sink{sizes: s.Sizes, room: s.Room, over: s.Over} }

func (s *wrappedSink) wrap(p api.Pipe) {
	switch p.Op {
	case api.PiPlain:
		s.outer = plainWriter{s.outer}
	case api.PiCount:
		t := &tally{}
		s.counts = append(s.counts, t)
		s.outer = countingWriter(s.outer, t)
	}
}
