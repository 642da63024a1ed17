package pipe

// reader is what can be read: bytes may come beside an error, and none without one.
type reader interface {
	read(p []byte) (int, error)
}

// writerTo is what can write all that is left of it by itself. Who has it is found by asking.
type writerTo interface {
	writeTo(w writer) (int64, error)
}

// source can only be read.
type source struct {
	left  string
	sizes []int
	early bool
	end   error
	reads int
}

func (s *source) read(p []byte) (int, error) {
	most := atMost(s.sizes, s.reads, len(p))
	s.reads++
	if s.left == "" {
		return 0, s.end
	}
	n := copy(p[:most], s.left)
	s.left = s.left[n:]
	if s.left == "" && s.early {
		return n, s.end
	}
	return n, nil
}

// atMost is m, or the size whose turn it is, if that is less.
func atMost(sizes []int, turn, m int) int {
	if len(sizes) == 0 {
		return m
	}
	return min(m, sizes[turn%len(sizes)])
}

// writingSource is a source that can write by itself, too.
type writingSource struct{ *source }

func (s writingSource) writeTo(w writer) (int64, error) {
	all := len(s.left)
	if all == 0 {
		return 0, butEnd(s.end)
	}
	said, err := w.write([]byte(s.left))
	gone := min(max(said, 0), all)
	s.left = s.left[gone:]
	switch {
	case said > all:
		err = errInvalid
	case err == nil && gone < all:
		err = errShort
	case err == nil:
		err = butEnd(s.end)
	}
	return int64(gone), err
}
