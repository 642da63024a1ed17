package journal

import (
	"conduit/api"
	"conduit/packed"
)

const (
	beginning   = "CNDJ\x01"
	lengthBytes = 2
	sumBytes    = 4
	frameBytes  = 2*lengthBytes + sumBytes // beside the record
)

const (
	halfByte = 4
	halfMask = 1<<halfByte - 1
)

// remainders is what four bits leave when the polynomial is taken out of them. Halves of bytes, as all bytes would be too many for a table that is written out.
var remainders = [1 << halfByte]uint32{
	0x00000000, 0x1db71064, 0x3b6e20c8, 0x26d930ac,
	0x76dc4190, 0x6b6b51f4, 0x4db26158, 0x5005713c,
	0xedb88320, 0xf00f9344, 0xd6d6a3e8, 0xcb61b38c,
	0x9b64c2b0, 0x86d3d2d4, 0xa00ae278, 0xbdbdf21c,
}

// appendFrame writes a record that is not too long.
func appendFrame(b, record []byte) []byte {
	length := uint64(len(record))
	b = packed.AppendFixed(b, length, lengthBytes)
	b = packed.AppendFixed(b, ^length, lengthBytes)
	b = append(b, record...)
	return packed.AppendFixed(b, uint64(Sum(record)), sumBytes)
}

// reader reads a journal.
type reader struct {
	packed.Cursor
	take func(record []byte) // what becomes of a record, which lies in the journal
}

// read goes over the records that stand whole, and tells how many bytes they take.
func read(b []byte, take func(record []byte)) (int, api.Errno) {
	r := reader{packed.At(b), take}
	if string(r.Bytes(len(beginning))) != beginning {
		return 0, api.ErrForm
	}
	return r.frames(), api.OK
}

// frames reads on until a frame does not stand whole, and tells where the last one ended that does.
func (r *reader) frames() int {
	whole := r.Read()
frames:
	for {
		length, turned := uint16(r.Fixed(lengthBytes)), uint16(r.Fixed(lengthBytes))
		record := r.Bytes(int(length))
		sum := uint32(r.Fixed(sumBytes))
		switch {
		case r.Fault() != api.OK, turned != ^length, sum != Sum(record):
			break frames
		default:
			r.take(record)
			whole = r.Read()
		}
	}
	return whole
}
