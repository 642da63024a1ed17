package journal

import (
	"bytes"
	"hash/crc32"
	"testing"

	"conduit/api"
)

// P27.1.
func TestNew(t *testing.T) {
	b := New()
	if !bytes.Equal(b, []byte{0x43, 0x4e, 0x44, 0x4a, 1}) {
		t.Fatalf("% x", b)
	}
	if l, n, e := Open(b); len(l) != 0 || n != 5 || e != api.OK {
		t.Errorf("%q, %d, %v", l, n, e)
	}
}

// P27.2: what does not begin with the five bytes is no journal, whatever stands behind.
func TestNoJournal(t *testing.T) {
	frame := chapterFrame(nil)
	for cut := range 5 {
		for _, b := range [][]byte{New()[:cut], append(New()[:cut], frame...)} {
			if _, _, e := openAsSaid(t, b); e != api.ErrForm {
				t.Errorf("% x: %v", b, e)
			}
		}
	}
	for at := range 5 {
		for bit := range 8 {
			b := journalOf([]byte("a"))
			b[at] ^= 1 << bit
			if _, _, e := openAsSaid(t, b); e != api.ErrForm {
				t.Errorf("% x: %v", b, e)
			}
			if _, e := appendAsSaid(t, b, []byte("b")); e != api.ErrForm {
				t.Errorf("% x: %v", b, e)
			}
		}
	}
	for _, b := range [][]byte{frame, append([]byte{0}, New()...), []byte("cndj\x01"), []byte("JDNC\x01"), []byte("CNDJ1"), []byte("CNDJ\x02")} {
		if _, _, e := openAsSaid(t, b); e != api.ErrForm {
			t.Errorf("% x: %v", b, e)
		}
	}
}

// P27.2: what of a frame must be there and right for it to stand whole.
func TestFrames(t *testing.T) {
	empty := []byte{0, 0, 255, 255, 0, 0, 0, 0}
	a := []byte{1, 0, 254, 255, 'a', 0x43, 0xbe, 0xb7, 0xe8}
	for _, c := range []struct {
		behind [][]byte
		n      int
		at     int
	}{
		{nil, 0, 5}, {[][]byte{empty}, 1, 13}, {[][]byte{a}, 1, 14}, {[][]byte{empty, a, empty}, 3, 30}, {[][]byte{a, a[:8]}, 1, 14}, {[][]byte{a, empty[:7]}, 1, 14},
		{[][]byte{a, {9}, a}, 1, 14}, {[][]byte{{9}, a}, 0, 5},
		{[][]byte{New(), a}, 0, 5}, {[][]byte{a, New(), a}, 1, 14},
		// The length's bytes, not turned, turned round, or with the higher one first.
		{[][]byte{{1, 0, 1, 0, 'a', 0x43, 0xbe, 0xb7, 0xe8}}, 0, 5}, {[][]byte{{1, 0, 0, 1, 'a', 0x43, 0xbe, 0xb7, 0xe8}}, 0, 5}, {[][]byte{{1, 0, 255, 254, 'a', 0x43, 0xbe, 0xb7, 0xe8}}, 0, 5}, {[][]byte{{0, 1, 255, 254, 'a', 0x43, 0xbe, 0xb7, 0xe8}}, 0, 5}, {[][]byte{{1, 0, 255, 255, 'a', 0x43, 0xbe, 0xb7, 0xe8}}, 0, 5},
		// The sum, with the highest byte first, or of another record.
		{[][]byte{{1, 0, 254, 255, 'a', 0xe8, 0xb7, 0xbe, 0x43}}, 0, 5}, {[][]byte{{1, 0, 254, 255, 'b', 0x43, 0xbe, 0xb7, 0xe8}}, 0, 5}, {[][]byte{{0, 0, 255, 255, 0, 0, 0, 1}, a}, 0, 5}, {[][]byte{{0, 0, 255, 255, 255, 255, 255, 255}}, 0, 5}, {[][]byte{make([]byte, 8)}, 0, 5},
	} {
		b := append(New(), bytes.Join(c.behind, nil)...)
		if l, at, e := openAsSaid(t, b); len(l) != c.n || at != c.at || e != api.OK {
			t.Errorf("% x: %q, %d, %v", b, l, at, e)
		}
		if got, e := appendAsSaid(t, b, []byte("a")); e != api.OK || !bytes.Equal(got, append(b[:c.at:c.at], a...)) {
			t.Errorf("% x, and a record: % x, %v", b, got, e)
		}
	}
}

// P27.2, P27.3: lengths near where a byte or both are full, the greatest too.
func TestLengths(t *testing.T) {
	for _, long := range []int{0, 1, 2, 254, 255, 256, 257, 511, 512, 32767, 32768, 65279, 65280, 65534, 65535} {
		record := randomBytes(newRandom(uint64(long)), long)
		b, e := appendAsSaid(t, New(), record)
		if e != api.OK || len(b) != 5+8+long {
			t.Errorf("of %d: %d, %v", long, len(b), e)
		}
		if l, n, _ := openAsSaid(t, b); n != len(b) || !sameRecords(l, [][]byte{record}) {
			t.Errorf("of %d: %d records, %d", long, len(l), n)
		}
		if l, n, _ := openAsSaid(t, b[:len(b)-1]); n != 5 || len(l) != 0 {
			t.Errorf("of %d, a byte less: %d records, %d", long, len(l), n)
		}
	}
}

// P27.3, 0.2, 0.5: a record that is too long, to no journal too.
func TestTooLong(t *testing.T) {
	for _, long := range []int{65536, 65537, 65536 + 5, 1 << 17} {
		record := make([]byte, long)
		for _, c := range []struct {
			b    []byte
			want api.Errno
		}{{New(), api.ErrRecord}, {journalOf([]byte("a")), api.ErrRecord}, {append(New(), 7), api.ErrRecord}, {nil, api.ErrForm}, {New()[:4], api.ErrForm}, {[]byte("CNDK\x01"), api.ErrForm}} {
			if b, e := appendAsSaid(t, c.b, record); b != nil || e != c.want {
				t.Errorf("% x, and %d bytes: %d, %v", c.b, long, len(b), e)
			}
		}
	}
}

// P27.2, P27.3, at journals of which some bytes are others.
func TestTurned(t *testing.T) {
	r := newRandom(1)
	cut := 0
	for range 30000 {
		records := randomRecords(r)
		b := turned(r, journalOf(records...))
		if l, _, e := openAsSaid(t, b); e == api.OK && len(l) < len(records) {
			cut++
		}
		appendAsSaid(t, b, randomRecord(r))
		openAsSaid(t, randomBytes(r, r.IntN(30)))
		openAsSaid(t, append(New(), randomBytes(r, r.IntN(30))...))
	}
	if cut < 5000 {
		t.Error("too few", cut)
	}
}

// P27.4.
func TestSum(t *testing.T) {
	for _, c := range []struct {
		s    string
		want uint32
	}{{"", 0}, {"\x00", 0xd202ef8d}, {"\xff", 0xff000000}, {"\xff\xff\xff\xff", 0xffffffff}, {"\x00\x00\x00\x00", 0x2144df1c}, {"a", 0xe8b7be43}, {"abc", 0x352441c2}, {"The quick brown fox jumps over the lazy dog", 0x414fa339}} {
		if got := Sum([]byte(c.s)); got != c.want {
			t.Errorf("%q: %08x", c.s, got)
		}
	}
	for x := range 256 {
		for y := range 256 {
			b := []byte{byte(x), byte(y)}
			if got := Sum(b); got != chapterSum(b) || got != crc32.ChecksumIEEE(b) {
				t.Fatalf("% x: %08x", b, got)
			}
		}
	}
	r := newRandom(2)
	for range 2000 {
		b := randomBytes(r, r.IntN(400))
		if got := Sum(b); got != chapterSum(b) || got != crc32.ChecksumIEEE(b) {
			t.Fatalf("% x: %08x", b, got)
		}
	}
	if long := randomBytes(r, 1<<20); Sum(long) != crc32.ChecksumIEEE(long) {
		t.Error("of many bytes")
	}
}
