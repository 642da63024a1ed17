// Package packed is numbers and texts as bytes, as chapters 26 to 29 have them: written behind others, read by a cursor, and given up, where they have not the form that is read.
package packed

import (
	"math"

	"conduit/api"
)

const (
	byteBits  = 8
	groupBits = 7
	groupMask = 1<<groupBits - 1
	more      = 1 << groupBits // in a byte behind which its number goes on
)

// AppendNumber writes a number.
func AppendNumber(b []byte, n uint64) []byte {
	for ; n > groupMask; n >>= groupBits {
		b = append(b, byte(n)|more)
	}
	return append(b, byte(n))
}

// AppendSigned writes a number that may be below 0.
func AppendSigned(b []byte, n int64) []byte {
	twice := uint64(n) << 1
	if n < 0 {
		// -2n - 1 is what 2n is not, bit by bit.
		twice = ^twice
	}
	return AppendNumber(b, twice)
}

// AppendText writes a text.
func AppendText(b []byte, s string) []byte {
	return append(AppendNumber(b, uint64(len(s))), s...)
}

// AppendTruth writes 1 or 0.
func AppendTruth(b []byte, is bool) []byte {
	if is {
		return append(b, 1)
	}
	return append(b, 0)
}

// AppendFixed writes a number's lowest bytes, so many, the lowest first.
func AppendFixed(b []byte, n uint64, width int) []byte {
	for range width {
		b = append(b, byte(n))
		n >>= byteBits
	}
	return b
}

// Cursor goes over bytes. It keeps what fails first, and all that it reads from there on is nought: so it need be asked only once, at the end.
type Cursor struct {
	bytes []byte
	at    int
	fault api.Errno
}

// At is a cursor ahead of the first of these bytes.
func At(b []byte) Cursor { return Cursor{bytes: b} }

// Fail keeps a fault, if none is kept yet.
func (c *Cursor) Fail(fault api.Errno) {
	if c.fault == api.OK {
		c.fault = fault
	}
}

// Fault is what has failed first.
func (c *Cursor) Fault() api.Errno { return c.fault }

// Read is how many bytes were read.
func (c *Cursor) Read() int { return c.at }

// Left is how many bytes were not read yet.
func (c *Cursor) Left() int { return len(c.bytes) - c.at }

// Rest is these, which lie where they lay.
func (c *Cursor) Rest() []byte { return c.bytes[c.at:] }

// Bytes reads so many bytes, which lie where they lay: ErrFrame, if fewer are left.
func (c *Cursor) Bytes(n int) []byte {
	if n > c.Left() {
		c.Fail(api.ErrFrame)
	}
	if c.fault != api.OK {
		return nil
	}
	c.at += n
	return c.bytes[c.at-n : c.at]
}

// Byte reads one.
func (c *Cursor) Byte() byte {
	if b := c.Bytes(1); len(b) == 1 {
		return b[0]
	}
	return 0
}

// Mark reads a byte that must be this one.
func (c *Cursor) Mark(b byte) {
	if c.Byte() != b {
		c.Fail(api.ErrForm)
	}
}

// Number reads a number that is at most so great. It fails with ErrForm at the first byte that no such number has there, so with ErrFrame only where one may still come of the bytes.
func (c *Cursor) Number(most uint64) uint64 {
	n := uint64(0)
	for shift := 0; c.fault == api.OK; shift += groupBits {
		b := c.Byte()
		group := uint64(b & groupMask)
		if group > most>>shift || n+group<<shift > most {
			c.Fail(api.ErrForm)
		}
		n += group << shift
		if b < more {
			if b == 0 && shift > 0 {
				c.Fail(api.ErrForm)
			}
			break
		}
		// What goes on ends in a bit that is set, in the next group at the earliest.
		if (most-n)>>(shift+groupBits) == 0 {
			c.Fail(api.ErrForm)
		}
	}
	if c.fault != api.OK {
		return 0
	}
	return n
}

// Signed reads a number that may be below 0.
func (c *Cursor) Signed() int64 {
	n := c.Number(math.MaxUint64)
	if n&1 == 1 {
		return int64(^(n >> 1))
	}
	return int64(n >> 1)
}

// Text reads a text that is at most so long.
func (c *Cursor) Text(most int) string {
	return string(c.Bytes(int(c.Number(uint64(most)))))
}

// Truth reads a byte that must be 1 or 0.
func (c *Cursor) Truth() bool {
	b := c.Byte()
	if b > 1 {
		c.Fail(api.ErrForm)
	}
	return b == 1
}

// Fixed reads a number of so many bytes, the lowest first.
func (c *Cursor) Fixed(width int) uint64 {
	n := uint64(0)
	for i, b := range c.Bytes(width) {
		n |= uint64(b) << (byteBits * i)
	}
	return n
}
