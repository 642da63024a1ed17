package pipe

import (
	"slices"

	"conduit/api"
)

// maxSizes is how many Sizes a source or a sink has at most.
const maxSizes = 64

// fitSize tells whether a buffer may have so many bytes.
func fitSize(size int) bool { return size >= 1 && size <= api.MaxBytes }

// fitSizes lets noughts stand only beside something greater: a source that gives none for ever would have no end.
func fitSizes(sizes []int) bool {
	if len(sizes) == 0 {
		return true
	}
	if len(sizes) > maxSizes || slices.Min(sizes) < 0 {
		return false
	}
	greatest := slices.Max(sizes)
	return greatest > 0 && greatest <= api.MaxBytes
}

func fitInner(s api.Sink0) bool {
	if s.Room < -1 || s.Room > api.MaxBytes || !fitSizes(s.Sizes) {
		return false
	}
	if !s.Reads {
		return s.Bulk == 0
	}
	return fitSize(s.Bulk)
}

// zeroSide tells whether nothing is said of a side.
func zeroSide(s api.Sink0) bool {
	return len(s.Sizes) == 0 && s.Room == 0 && !s.Over && !s.Reads && s.Bulk == 0
}

func fitWraps(l []api.Pipe, fits func(p api.Pipe) bool) bool {
	if len(l) > api.MaxWraps {
		return false
	}
	for _, p := range l {
		if !fits(p) {
			return false
		}
	}
	return true
}

// aroundSource tells whether a wrapper may stand around a source, aroundSink whether it may around a sink.
func aroundSource(p api.Pipe) bool {
	switch p.Op {
	case api.PiLimit:
		return zeroSide(p.Side)
	case api.PiTee:
		return p.N == 0 && fitInner(p.Side) && !p.Side.Reads
	}
	return aroundSink(p)
}

func aroundSink(p api.Pipe) bool {
	return (p.Op == api.PiPlain || p.Op == api.PiCount) && p.N == 0 && zeroSide(p.Side)
}
