package pipe

// Wrappers embed what lies below as the interface that it is read or written by: whatever else that can do is hidden. Those that keep it are types of their own.

// plainReader and plainWriter only hide.
type plainReader struct{ reader }

type plainWriter struct{ writer }

// tally is the count of a wrapper.
type tally struct{ counted int64 }

// add counts what is said; what is below nothing counts as nothing.
func (t *tally) add(n int64) { t.counted += max(n, 0) }

type countReader struct {
	reader
	*tally
}

func (c countReader) read(p []byte) (int, error) {
	n, err := c.reader.read(p)
	c.add(int64(n))
	return n, err
}

// countWriterTo is around a reader that can write by itself.
type countWriterTo struct {
	countReader
	self writerTo
}

func (c countWriterTo) writeTo(w writer) (int64, error) {
	n, err := c.self.writeTo(w)
	c.add(n)
	return n, err
}

// countingReader keeps the way by itself just if what lies below has it.
func countingReader(below reader, t *tally) reader {
	c := countReader{below, t}
	if self, ok := below.(writerTo); ok {
		return countWriterTo{c, self}
	}
	return c
}

type countWriter struct {
	writer
	*tally
}

func (c countWriter) write(p []byte) (int, error) {
	n, err := c.writer.write(p)
	c.add(int64(n))
	return n, err
}

// countReaderFrom is around a writer that can read by itself.
type countReaderFrom struct {
	countWriter
	self readerFrom
}

func (c countReaderFrom) readFrom(r reader) (int64, error) {
	n, err := c.self.readFrom(r)
	c.add(n)
	return n, err
}

// countingWriter keeps the way by itself just if what lies below has it.
func countingWriter(below writer, t *tally) writer {
	c := countWriter{below, t}
	if self, ok := below.(readerFrom); ok {
		return countReaderFrom{c, self}
	}
	return c
}

// limitReader gives so many bytes at most.
type limitReader struct {
	reader
	rest int64
}

func (l *limitReader) read(p []byte) (int, error) {
	if l.rest <= 0 {
		return 0, errEOF
	}
	n, err := l.reader.read(p[:min(int64(len(p)), l.rest)])
	l.rest -= int64(n)
	return n, err
}

// teeReader writes what is read to a side, too.
type teeReader struct {
	reader
	side *sink
}

func (t teeReader) read(p []byte) (int, error) {
	n, err := t.reader.read(p)
	if n == 0 {
		return 0, err
	}
	if took, amiss := t.side.write(p[:n]); amiss != nil {
		return took, amiss
	}
	return n, err
}
