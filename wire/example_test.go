package wire

import (
	"bytes"
	"testing"

	"conduit/api"
	"conduit/datum"
)

// The chapter's example 1.
func TestExampleValues(t *testing.T) {
	for _, c := range []struct {
		d string
		b []byte
	}{
		{"300", []byte{1, 0xd8, 4}}, {`"a"`, []byte{4, 1, 0x61}}, {"[nil, true]", []byte{8, 2, 0, 6, 1}}, {"&3({})", []byte{0x0b, 3, 0x0d}}, {"-1", []byte{1, 1}},
	} {
		d := read(t, c.d)
		if got := Datum(d); !bytes.Equal(got, c.b) {
			t.Errorf("%s: % x", c.d, got)
		}
		if got, n, e := readAsSaid(t, c.b); !datum.Same(got, d) || n != len(c.b) || e != api.OK {
			t.Errorf("% x: %s, %d, %v", c.b, datum.Print(got), n, e)
		}
	}
}

// The chapter's example 2.
func TestExampleFrame(t *testing.T) {
	b := encodeAsSaid(t, plain(0))
	if want := []byte{0xa7, 1, 10, 0, 0, 0, 0, 0, 0, 1, 0x74, 0, 0}; len(b) != len(want)+2 || !bytes.Equal(b[:len(want)], want) {
		t.Errorf("% x", b)
	}
	if got := uint16(b[13])<<8 + uint16(b[14]); got != chapterSum(b[3:13]) {
		t.Errorf("the sum %04x", got)
	}
}

// The chapter's example 3.
func TestExampleNone(t *testing.T) {
	for _, c := range []struct {
		b    []byte
		want api.Errno
	}{
		{[]byte{1}, api.ErrFrame}, {[]byte{0x0e}, api.ErrForm}, {[]byte{6, 2}, api.ErrForm}, {[]byte{1, 0x80, 0}, api.ErrForm}, {[]byte{8, 1}, api.ErrFrame}, {[]byte{4, 255, 255, 255}, api.ErrForm},
	} {
		if _, n, e := readAsSaid(t, c.b); e != c.want || n != 0 {
			t.Errorf("% x: %d, %v", c.b, n, e)
		}
	}
	for _, c := range []struct {
		b    []byte
		want api.Errno
	}{{[]byte{0xa7}, api.ErrFrame}, {[]byte{0xa8}, api.ErrForm}, {nil, api.ErrFrame}} {
		if _, n, e := decodeAsSaid(t, c.b); e != c.want || n != 0 {
			t.Errorf("% x: %d, %v", c.b, n, e)
		}
	}
}
