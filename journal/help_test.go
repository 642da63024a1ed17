package journal

import (
	"bytes"
	"encoding/binary"
	"hash/crc32"
	"math/rand/v2"
	"slices"
	"testing"

	"conduit/api"
)

func newRandom(seed uint64) *rand.Rand { return rand.New(rand.NewPCG(seed, 27)) }

func pick[T any](r *rand.Rand, l ...T) T { return l[r.IntN(len(l))] }

// chapterSum goes through the bits one by one, the lowest of each byte first.
func chapterSum(b []byte) uint32 {
	const polynomial = 0xedb88320 // x^32 left out, x^31 to x^0 from the lowest bit on
	left := ^uint32(0)
	for _, x := range b {
		for bit := range 8 {
			odd := (left ^ uint32(x>>bit)) & 1
			if left >>= 1; odd == 1 {
				left ^= polynomial
			}
		}
	}
	return ^left
}

// chapterFrame is the frame of a record that is at most MaxRecord long.
func chapterFrame(record []byte) []byte {
	b := binary.LittleEndian.AppendUint16(nil, uint16(len(record)))
	b = append(b, 255-b[0], 255-b[1])
	return binary.LittleEndian.AppendUint32(append(b, record...), crc32.ChecksumIEEE(record))
}

// journalOf is what New and Appends are to make.
func journalOf(records ...[]byte) []byte {
	b := []byte{'C', 'N', 'D', 'J', 1}
	for _, record := range records {
		b = append(b, chapterFrame(record)...)
	}
	return b
}

// chapterWhole is the frame that stands whole at the beginning of b; nil if none does. It is told by writing it again.
func chapterWhole(b []byte) []byte {
	if len(b) < 8 {
		return nil
	}
	n := int(binary.LittleEndian.Uint16(b))
	if len(b) < 8+n {
		return nil
	}
	if frame := chapterFrame(b[4 : 4+n]); bytes.HasPrefix(b, frame) {
		return frame
	}
	return nil
}

// chapterOpen is P27.2.
func chapterOpen(b []byte) (l [][]byte, at int, e api.Errno) {
	if !bytes.HasPrefix(b, []byte("CNDJ\x01")) {
		return nil, 0, api.ErrForm
	}
	at = 5
	for frame := chapterWhole(b[at:]); frame != nil; frame = chapterWhole(b[at:]) {
		l = append(l, frame[4:len(frame)-4])
		at += len(frame)
	}
	return l, at, api.OK
}

// chapterAppend is P27.3.
func chapterAppend(b, record []byte) ([]byte, api.Errno) {
	_, n, e := chapterOpen(b)
	switch {
	case e != api.OK:
		return nil, e
	case len(record) > 65535:
		return nil, api.ErrRecord
	}
	return slices.Concat(b[:n], chapterFrame(record)), api.OK
}

func short(b []byte) []byte { return b[:min(len(b), 60)] }

func sameRecords(x, y [][]byte) bool { return slices.EqualFunc(x, y, bytes.Equal) }

// openAsSaid holds what Open answers against P27.2.
func openAsSaid(t testing.TB, b []byte) ([][]byte, int, api.Errno) {
	t.Helper()
	l, n, e := Open(b)
	want, wantN, wantE := chapterOpen(b)
	if !sameRecords(l, want) || n != wantN || e != wantE {
		t.Fatalf("Open of %d bytes, % x: %d records, %d, %v, not %d, %d, %v", len(b), short(b), len(l), n, e, len(want), wantN, wantE)
	}
	return l, n, e
}

// appendAsSaid holds what Append answers against P27.3.
func appendAsSaid(t testing.TB, b, record []byte) ([]byte, api.Errno) {
	t.Helper()
	got, e := Append(b, record)
	want, wantE := chapterAppend(b, record)
	if !bytes.Equal(got, want) || e != wantE {
		t.Fatalf("Append to %d bytes, % x, of %d, % x: % x, %v, not % x, %v", len(b), short(b), len(record), short(record), short(got), e, short(want), wantE)
	}
	return got, e
}

func randomBytes(r *rand.Rand, n int) []byte {
	b := make([]byte, n)
	for i := range b {
		b[i] = byte(r.Uint32())
	}
	return b
}

// randomRecord is often such that its bytes, too, are a journal's or a frame's.
func randomRecord(r *rand.Rand) []byte {
	switch r.IntN(8) {
	case 0:
		return nil
	case 1:
		return journalOf([]byte("in"))
	case 2:
		return chapterFrame(randomBytes(r, r.IntN(4)))
	case 3:
		return make([]byte, r.IntN(20))
	case 4:
		return randomBytes(r, pick(r, 255, 256, 257, 300))
	}
	return randomBytes(r, r.IntN(20))
}

func randomRecords(r *rand.Rand) (l [][]byte) {
	for range r.IntN(6) {
		l = append(l, randomRecord(r))
	}
	return l
}

// turned is bytes of which a few are others, or are gone, or have others between.
func turned(r *rand.Rand, b []byte) []byte {
	b = bytes.Clone(b)
	for range 1 + r.IntN(2) {
		at := r.IntN(len(b) + 1)
		x := pick(r, 0, 1, 254, 255, byte(r.Uint32()))
		switch {
		case r.IntN(4) == 0:
			b = slices.Insert(b, at, x)
		case at == len(b):
			b = b[:r.IntN(len(b)+1)]
		case r.IntN(4) == 0:
			b = slices.Delete(b, at, at+1)
		default:
			b[at] = x
		}
	}
	return b
}
