package pipe

import (
	"errors"
	"io"
	"math/rand/v2"
	"slices"
	"strings"
	"testing"

	"conduit/api"
)

func newRandom(seed uint64) *rand.Rand { return rand.New(rand.NewPCG(seed, 36)) }

func pick[T any](r *rand.Rand, l ...T) T { return l[r.IntN(len(l))] }

// any0 is a sink that takes all.
var any0 = api.Sink0{Room: -1}

var anySink = api.Sink{Inner: any0}

// Wrappers.
var (
	plain   = api.Pipe{Op: api.PiPlain}
	counter = api.Pipe{Op: api.PiCount}
)

func limit(n int64) api.Pipe { return api.Pipe{Op: api.PiLimit, N: n} }

func tee(side api.Sink0) api.Pipe { return api.Pipe{Op: api.PiTee, Side: side} }

func around(s api.Source, l ...api.Pipe) api.Source {
	s.Wraps = slices.Concat(s.Wraps, l)
	return s
}

func aroundTo(s api.Sink, l ...api.Pipe) api.Sink {
	s.Wraps = slices.Concat(s.Wraps, l)
	return s
}

func randomSizes(r *rand.Rand) (l []int) {
	if r.IntN(2) == 0 {
		return nil
	}
	for range 1 + r.IntN(4) {
		l = append(l, r.IntN(5))
	}
	l[r.IntN(len(l))] = 1 + r.IntN(6)
	return l
}

func randomInner(r *rand.Rand) api.Sink0 {
	s := api.Sink0{Sizes: randomSizes(r), Room: -1, Over: r.IntN(8) == 0}
	if r.IntN(3) == 0 {
		s.Room = r.IntN(16)
	}
	return s
}

func randomSink(r *rand.Rand) api.Sink {
	s := api.Sink{Inner: randomInner(r)}
	if r.IntN(2) == 0 {
		s.Inner.Reads, s.Inner.Bulk = true, 1+r.IntN(8)
	}
	for range r.IntN(4) {
		s.Wraps = append(s.Wraps, pick(r, counter, counter, plain))
	}
	return s
}

func randomData(r *rand.Rand) string {
	b := make([]byte, r.IntN(20))
	for i := range b {
		b[i] = byte(r.IntN(256))
	}
	return string(b)
}

func randomSource(r *rand.Rand) api.Source {
	s := api.Source{Data: randomData(r), Sizes: randomSizes(r), Early: r.IntN(2) == 0, Broken: r.IntN(4) == 0, Writes: r.IntN(2) == 0}
	for range r.IntN(4) {
		s.Wraps = append(s.Wraps, pick(r, counter, counter, plain, limit(int64(r.IntN(24)-2)), tee(randomInner(r))))
	}
	return s
}

// smoothSink takes all, smoothSource gives all: nothing but the ways may differ.
func smoothSink(r *rand.Rand) api.Sink {
	s := randomSink(r)
	s.Inner.Sizes, s.Inner.Room, s.Inner.Over = nil, -1, false
	return s
}

func smoothSource(r *rand.Rand) api.Source {
	s := randomSource(r)
	s.Broken = false
	s.Wraps = slices.DeleteFunc(s.Wraps, func(p api.Pipe) bool { return p.Op == api.PiLimit || p.Op == api.PiTee })
	return s
}

// From here on the chapter's words stand once more, over Go's own io.

var (
	ioSourceErr  = errors.New("source")
	ioRoomErr    = errors.New("room")
	ioInvalidErr = errors.New("invalid")
)

// ioSource is what the chapter says of sources.
type ioSource struct {
	said      api.Source
	at, reads int
}

func (s *ioSource) end() error {
	if s.said.Broken {
		return ioSourceErr
	}
	return io.EOF
}

func (s *ioSource) Read(p []byte) (int, error) {
	k, left := s.reads, len(s.said.Data)-s.at
	s.reads++
	if left == 0 {
		return 0, s.end()
	}
	n := left
	if n > len(p) {
		n = len(p)
	}
	if l := s.said.Sizes; len(l) > 0 && n > l[k%len(l)] {
		n = l[k%len(l)]
	}
	for i := range n {
		p[i] = s.said.Data[s.at+i]
	}
	s.at += n
	if s.at == len(s.said.Data) && s.said.Early && n > 0 {
		return n, s.end()
	}
	return n, nil
}

type ioWriting struct{ *ioSource }

func (s ioWriting) WriteTo(w io.Writer) (int64, error) {
	left, said := len(s.said.Data)-s.at, 0
	var err error
	if left > 0 {
		said, err = w.Write([]byte(s.said.Data[s.at:]))
	}
	gone := said
	if gone > left {
		gone = left
	}
	s.at += gone
	if said > left {
		return int64(gone), ioInvalidErr
	}
	if err != nil {
		return int64(gone), err
	}
	if gone < left {
		return int64(gone), io.ErrShortWrite
	}
	if s.said.Broken {
		return int64(gone), ioSourceErr
	}
	return int64(gone), nil
}

// ioSink is what the chapter says of sinks.
type ioSink struct {
	said   api.Sink0
	has    []byte
	writes int
}

func (s *ioSink) Write(p []byte) (int, error) {
	k := s.writes
	s.writes++
	would := len(p)
	if l := s.said.Sizes; len(l) > 0 && would > l[k%len(l)] {
		would = l[k%len(l)]
	}
	takes := would
	if s.said.Room >= 0 && takes > s.said.Room-len(s.has) {
		takes = s.said.Room - len(s.has)
	}
	for i := range takes {
		s.has = append(s.has, p[i])
	}
	if takes < would {
		return takes, ioRoomErr
	}
	if s.said.Over {
		return len(p) + 1, nil
	}
	return takes, nil
}

type ioReading struct{ *ioSink }

func (s ioReading) ReadFrom(r io.Reader) (int64, error) {
	before := len(s.has)
	put := func() int64 { return int64(len(s.has) - before) }
	for {
		p := make([]byte, s.said.Bulk)
		n, err := r.Read(p)
		for i := range n {
			if len(s.has) == s.said.Room {
				return put(), ioRoomErr
			}
			s.has = append(s.has, p[i])
		}
		if err == io.EOF {
			return put(), nil
		}
		if err != nil {
			return put(), err
		}
	}
}

// ioCount counts for a reader or a writer, which are embedded as what can do no more.
type ioCountIn struct {
	io.Reader
	n *int64
}

func (c ioCountIn) Read(p []byte) (int, error) {
	n, err := c.Reader.Read(p)
	*c.n += int64(n)
	return n, err
}

type ioCountInTo struct {
	ioCountIn
	to io.WriterTo
}

func (c ioCountInTo) WriteTo(w io.Writer) (int64, error) {
	n, err := c.to.WriteTo(w)
	*c.n += n
	return n, err
}

type ioCountOut struct {
	io.Writer
	n *int64
}

func (c ioCountOut) Write(p []byte) (int, error) {
	n, err := c.Writer.Write(p)
	*c.n += int64(n)
	return n, err
}

type ioCountOutFrom struct {
	ioCountOut
	from io.ReaderFrom
}

func (c ioCountOutFrom) ReadFrom(r io.Reader) (int64, error) {
	n, err := c.from.ReadFrom(r)
	*c.n += n
	return n, err
}

// ioEnds is both ends of a copy by Go's io.
type ioEnds struct {
	src    *ioSource
	dst    *ioSink
	r      io.Reader
	w      io.Writer
	sides  []*ioSink
	counts []*int64
}

func ioOf(src api.Source, dst api.Sink) *ioEnds {
	e := &ioEnds{src: &ioSource{said: src}, dst: &ioSink{said: dst.Inner}}
	e.r, e.w = e.src, e.dst
	if src.Writes {
		e.r = ioWriting{e.src}
	}
	if dst.Inner.Reads {
		e.w = ioReading{e.dst}
	}
	for _, p := range src.Wraps {
		e.wrapSource(p)
	}
	for _, p := range dst.Wraps {
		e.wrapSink(p)
	}
	return e
}

func (e *ioEnds) wrapSource(p api.Pipe) {
	switch p.Op {
	case api.PiPlain:
		e.r = struct{ io.Reader }{e.r}
	case api.PiLimit:
		e.r = io.LimitReader(e.r, p.N)
	case api.PiTee:
		side := &ioSink{said: p.Side}
		e.sides = append(e.sides, side)
		e.r = io.TeeReader(e.r, side)
	case api.PiCount:
		c := ioCountIn{e.r, new(int64)}
		e.counts = append(e.counts, c.n)
		if to, ok := e.r.(io.WriterTo); ok {
			e.r = ioCountInTo{c, to}
		} else {
			e.r = c
		}
	}
}

func (e *ioEnds) wrapSink(p api.Pipe) {
	if p.Op == api.PiPlain {
		e.w = struct{ io.Writer }{e.w}
		return
	}
	c := ioCountOut{e.w, new(int64)}
	e.counts = append(e.counts, c.n)
	if from, ok := e.w.(io.ReaderFrom); ok {
		e.w = ioCountOutFrom{c, from}
	} else {
		e.w = c
	}
}

func ioWay(src api.Source, dst api.Sink) int {
	e := ioOf(src, dst)
	if _, ok := e.r.(io.WriterTo); ok {
		return api.WayWrites
	}
	if _, ok := e.w.(io.ReaderFrom); ok {
		return api.WayReads
	}
	return api.WayBuffer
}

func ioNumber(t testing.TB, err error) api.Errno {
	t.Helper()
	switch {
	case err == nil:
		return api.OK
	case err == io.ErrShortWrite:
		return api.ErrShort
	case err == ioInvalidErr || err.Error() == "invalid write result":
		return api.ErrInvalid
	case err == ioRoomErr:
		return api.ErrRoom
	case err == ioSourceErr:
		return api.ErrSource
	case err == io.ErrUnexpectedEOF:
		return api.ErrEnd
	case err == io.EOF:
		return api.ErrNone
	case err == io.ErrShortBuffer:
		return api.ErrSmall
	}
	t.Fatal(err)
	return 0
}

func ioCopy(t testing.TB, src api.Source, dst api.Sink, size int) api.Copied {
	t.Helper()
	e := ioOf(src, dst)
	n, err := io.CopyBuffer(e.w, e.r, make([]byte, size))
	c := api.Copied{N: n, Err: ioNumber(t, err), Way: ioWay(src, dst), Data: string(e.dst.has), Reads: e.src.reads, Writes: e.dst.writes, Left: len(src.Data) - e.src.at}
	for _, side := range e.sides {
		c.Sides = append(c.Sides, string(side.has))
	}
	for _, count := range e.counts {
		c.Counts = append(c.Counts, *count)
	}
	return c
}

func ioCopyN(t testing.TB, src api.Source, dst api.Sink, n int64, size int) api.Copied {
	t.Helper()
	c := ioCopy(t, around(src, limit(n)), dst, size)
	if c.N == n {
		c.Err = api.OK
	} else if c.N < n && c.Err == api.OK {
		c.Err = api.ErrEnd
	}
	return c
}

func ioReadAtLeast(t testing.TB, src api.Source, least, size int) (string, api.Errno) {
	t.Helper()
	p := make([]byte, size)
	n, err := io.ReadAtLeast(ioOf(src, anySink).r, p, least)
	return string(p[:n]), ioNumber(t, err)
}

// ioAll reads through a sink that takes all, as no source writes by itself in it.
func ioAll(t testing.TB, src api.Source, size int) (string, api.Errno) {
	t.Helper()
	var all strings.Builder
	r := struct{ io.Reader }{ioOf(src, anySink).r}
	_, err := io.CopyBuffer(struct{ io.Writer }{&all}, r, make([]byte, size))
	return all.String(), ioNumber(t, err)
}

func sameCopied(a, b api.Copied) bool {
	same := slices.Equal(a.Sides, b.Sides) && slices.Equal(a.Counts, b.Counts)
	return same && a.N == b.N && a.Err == b.Err && a.Way == b.Way && a.Data == b.Data && a.Reads == b.Reads && a.Writes == b.Writes && a.Left == b.Left
}

func fit(t testing.TB, src api.Source, dst api.Sink) {
	t.Helper()
	if !Source(src) || !Sink(dst) {
		t.Fatalf("not fit: %+v %+v", src, dst)
	}
}

// asSaid holds all that is told of a source and a sink against Go's io.
func asSaid(t testing.TB, src api.Source, dst api.Sink, n int64, least, size int) {
	t.Helper()
	fit(t, src, dst)
	if w := Way(src, dst); w != ioWay(src, dst) {
		t.Fatalf("%+v %+v: way %d", src, dst, w)
	}
	if got, said := Copy(src, dst, size), ioCopy(t, src, dst, size); !sameCopied(got, said) {
		t.Fatalf("%+v %+v %d: %+v, not %+v", src, dst, size, got, said)
	}
	if got, said := CopyN(src, dst, n, size), ioCopyN(t, src, dst, n, size); !sameCopied(got, said) {
		t.Fatalf("%+v %+v %d %d: %+v, not %+v", src, dst, n, size, got, said)
	}
	got, e := ReadAtLeast(src, least, size)
	if said, fault := ioReadAtLeast(t, src, least, size); got != said || e != fault {
		t.Fatalf("%+v %d %d: %q %v, not %q %v", src, least, size, got, e, said, fault)
	}
	got, e = All(src, size)
	if said, fault := ioAll(t, src, size); got != said || e != fault {
		t.Fatalf("%+v %d: %q %v, not %q %v", src, size, got, e, said, fault)
	}
}
