package pipe

// writer is what can be written: it says how many bytes it took.
type writer interface {
	write(p []byte) (int, error)
}

// readerFrom is what can read all of a source by itself. Who has it is found by asking.
type readerFrom interface {
	readFrom(r reader) (int64, error)
}

// sink can only be written.
type sink struct {
	sizes  []int
	room   int
	over   bool
	has    []byte
	writes int
}

func (s *sink) write(p []byte) (int, error) {
	most := atMost(s.sizes, s.writes, len(p))
	s.writes++
	n, err := s.put(p[:most])
	if s.over && err == nil {
		return len(p) + 1, nil
	}
	return n, err
}

// put puts bytes behind what the sink has, as many as there is room for.
func (s *sink) put(p []byte) (int, error) {
	if s.room < 0 {
		s.has = append(s.has, p...)
		return len(p), nil
	}
	n := min(len(p), s.room-len(s.has))
	s.has = append(s.has, p[:n]...)
	if n < len(p) {
		return n, errRoom
	}
	return n, nil
}

// readingSink is a sink that can read by itself, too.
type readingSink struct {
	*sink
	bulk int
}

func (s readingSink) readFrom(r reader) (int64, error) {
	buffer := make([]byte, s.bulk)
	done := int64(0)
	for {
		n, err := r.read(buffer)
		put, full := s.put(buffer[:n])
		done += int64(put)
		if full != nil {
			return done, full
		}
		if err != nil {
			return done, butEnd(err)
		}
	}
}
