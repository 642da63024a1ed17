package pipe

import "conduit/api"

// way asks who can go by itself: the source ahead of the sink.
func way(r reader, w writer) int {
	if _, ok := r.(writerTo); ok {
		return api.WayWrites
	}
	if _, ok := w.(readerFrom); ok {
		return api.WayReads
	}
	return api.WayBuffer
}

// copyAll copies by the way that is asked for first and found.
func copyAll(r reader, w writer, size int) (int64, error) {
	if self, ok := r.(writerTo); ok {
		return self.writeTo(w)
	}
	if self, ok := w.(readerFrom); ok {
		return self.readFrom(r)
	}
	return through(r, w, make([]byte, enough(r, size)))
}

// enough is how many bytes a buffer needs: no more than a limit lets through, but one at least.
func enough(r reader, size int) int {
	if l, ok := r.(*limitReader); ok && int64(size) > l.rest {
		return int(max(l.rest, 1))
	}
	return size
}

// through copies through a buffer.
func through(r reader, w writer, buffer []byte) (int64, error) {
	done := int64(0)
	for {
		n, err := r.read(buffer)
		if n > 0 {
			took, amiss := pass(w, buffer[:n])
			done += int64(took)
			if amiss != nil {
				return done, amiss
			}
		}
		if err != nil {
			return done, butEnd(err)
		}
	}
}

// pass writes what was read; of a sink that says what can't be, nothing is taken as true.
func pass(w writer, p []byte) (int, error) {
	took, err := w.write(p)
	if took < 0 || took > len(p) {
		return 0, errInvalid
	}
	if err == nil && took < len(p) {
		err = errShort
	}
	return took, err
}

// copied copies, and tells what has become of both ends.
func copied(src *wrappedSource, dst *wrappedSink, size int) api.Copied {
	c := api.Copied{Way: way(src.outer, dst.outer)}
	n, err := copyAll(src.outer, dst.outer, size)
	c.N, c.Err = n, number(err)
	c.Data, c.Writes = string(dst.inner.has), dst.inner.writes
	c.Reads, c.Left = src.inner.reads, len(src.inner.left)
	for _, side := range src.sides {
		c.Sides = append(c.Sides, string(side.has))
	}
	for _, t := range src.counts {
		c.Counts = append(c.Counts, t.counted)
	}
	for _, t := range dst.counts {
		c.Counts = append(c.Counts, t.counted)
	}
	return c
}

// readAtLeast reads into a buffer that has room for as many.
func readAtLeast(r reader, buffer []byte, least int) (int, error) {
	n := 0
	var err error
	for n < least && err == nil {
		var more int
		more, err = r.read(buffer[n:])
		n += more
	}
	switch {
	case n >= least:
		return n, nil
	case err == errEOF && n > 0:
		return n, errTooSoon
	}
	return n, err
}

func readAll(r reader, buffer []byte) ([]byte, error) {
	var all []byte
	for {
		n, err := r.read(buffer)
		all = append(all, buffer[:n]...)
		if err != nil {
			return all, butEnd(err)
		}
	}
}
