package journal

import (
	"bytes"
	"slices"
	"testing"

	"conduit/api"
)

// made is a journal made by New and Appends, and how many bytes it had behind each.
func made(t *testing.T, records [][]byte) (b []byte, ends []int) {
	t.Helper()
	b = New()
	for _, record := range records {
		next, e := Append(b, record)
		if e != api.OK {
			t.Fatal(e)
		}
		b, ends = next, append(ends, len(next))
	}
	return b, ends
}

// P27.5: all records, and all bytes.
func TestAllRecords(t *testing.T) {
	r := newRandom(10)
	for range 3000 {
		records := randomRecords(r)
		b, _ := made(t, records)
		if l, n, e := Open(b); !sameRecords(l, records) || n != len(b) || e != api.OK {
			t.Fatalf("% x: %q, %d, %v", b, l, n, e)
		}
		if !bytes.Equal(b, journalOf(records...)) {
			t.Fatalf("% x", b)
		}
	}
	many, _ := made(t, slices.Repeat([][]byte{[]byte("x"), nil}, 500))
	if l, n, e := Open(many); len(l) != 1000 || n != len(many) || e != api.OK {
		t.Error(len(l), n, e)
	}
}

// P27.6: cut off anywhere behind the fifth byte, those whose frames lie in what is left.
func TestCut(t *testing.T) {
	r := newRandom(11)
	for range 500 {
		records := randomRecords(r)
		b, ends := made(t, records)
		for cut := 5; cut <= len(b); cut++ {
			in, at := 0, 5
			for i, end := range ends {
				if end <= cut {
					in, at = i+1, end
				}
			}
			if l, n, e := Open(b[:cut]); !sameRecords(l, records[:in]) || n != at || e != api.OK {
				t.Fatalf("% x cut off at %d: %q, %d, %v", short(b), cut, l, n, e)
			}
		}
	}
}

// P27.7: to any journal, behind which anything stands, a record is taken, and Open tells it behind the others.
func TestAppendToAny(t *testing.T) {
	r := newRandom(12)
	for range 20000 {
		b := append(New(), pick(r, turned(r, journalOf(randomRecords(r)...)[5:]), randomBytes(r, r.IntN(20)), nil)...)
		ahead, at, e := Open(b)
		if e != api.OK {
			t.Fatal(e)
		}
		record := randomRecord(r)
		next, e := Append(b, record)
		if e != api.OK || !bytes.HasPrefix(next, b[:at]) {
			t.Fatalf("% x, and % x: % x, %v", short(b), short(record), short(next), e)
		}
		if l, n, e := Open(next); !sameRecords(l, append(ahead, record)) || n != len(next) || e != api.OK {
			t.Fatalf("% x, and % x: %q, %d, %v", short(b), short(record), l, n, e)
		}
	}
}

// P27.8: of the length, any one bit, and of what stands for it turned too.
func TestTurnedLength(t *testing.T) {
	r := newRandom(13)
	for range 500 {
		records := append(randomRecords(r), randomRecord(r))
		b, ends := made(t, records)
		at := 5
		for i, end := range ends {
			for bit := range 32 {
				b[at+bit/8] ^= 1 << (bit % 8)
				// Zeros and frames behind: so a length that is too great finds its bytes, and what stands there a sum.
				long := slices.Concat(b, make([]byte, 70000*(bit/31)), b)
				if l, n, _ := Open(long); !sameRecords(l, records[:i]) || n != at {
					t.Fatalf("frame %d with bit %d turned: %d records, %d", i, bit, len(l), n)
				}
				b[at+bit/8] ^= 1 << (bit % 8)
			}
			at = end
		}
	}
	// Of a record that goes on as if it were shorter, and ends in that one's sum.
	short := chapterFrame([]byte{7, 8, 9})
	b := journalOf(slices.Concat([]byte{7, 8, 9}, short[7:]))
	for _, at := range []int{5, 7} {
		turned := bytes.Clone(b)
		turned[at] ^= 4
		if l, n, _ := Open(turned); len(l) != 0 || n != 5 {
			t.Errorf("% x: %q, %d", turned, l, n)
		}
	}
}

// A record or a sum that is changed in one bit is told too, by the sum.
func TestTurnedRecord(t *testing.T) {
	r := newRandom(14)
	for range 300 {
		record := randomRecord(r)
		b := journalOf([]byte("ahead"), record, []byte("behind"))
		begin := len(journalOf([]byte("ahead")))
		end := begin + 8 + len(record)
		for at := begin; at < end; at++ {
			b[at] ^= 1 << r.IntN(8)
			if l, n, _ := Open(b); len(l) != 1 || n != begin {
				t.Fatalf("% x changed at %d: %q, %d", short(b), at, l, n)
			}
			copy(b, journalOf([]byte("ahead"), record, []byte("behind")))
		}
	}
}
