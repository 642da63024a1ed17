package journal

import (
	"bytes"
	"slices"
	"testing"

	"conduit/api"
)

// roomy is bytes with spare room behind them, in which such stand that would go on.
func roomy(b []byte) []byte {
	return slices.Concat(b, chapterFrame([]byte("spare")))[:len(b)]
}

func scribble(b []byte) {
	b = b[:cap(b)]
	for i := range b {
		b[i] = 0xaa
	}
}

// 0.3, 0.4, 0.8.
func TestMemory(t *testing.T) {
	r := newRandom(20)
	for range 5000 {
		records, record := randomRecords(r), randomRecord(r)
		plain := append(journalOf(records...), randomBytes(r, r.IntN(3))...)
		b, in := roomy(plain), roomy(record)
		wasB, wasIn := bytes.Clone(b[:cap(b)]), bytes.Clone(in[:cap(in)])
		l, n, _ := openAsSaid(t, b)
		next, _ := appendAsSaid(t, b, in)
		sum := Sum(in)
		if !bytes.Equal(b[:cap(b)], wasB) || !bytes.Equal(in[:cap(in)], wasIn) {
			t.Fatal("what was handed in has changed, or its spare room")
		}
		if n != len(journalOf(records...)) || sum != chapterSum(record) {
			t.Fatal("the spare room plays a part")
		}
		scribble(b)
		scribble(in)
		if !sameRecords(l, records) || !bytes.Equal(next, journalOf(append(slices.Clip(records), record)...)) {
			t.Fatal("what was answered changed with what was handed in")
		}
		scribble(next)
		for i := range l {
			if !sameRecords(l[i:], records[i:]) {
				t.Fatal("two lists share memory")
			}
			scribble(l[i])
		}
		openAsSaid(t, plain)
		appendAsSaid(t, plain, record)
	}
}

// 0.3, 0.4: what New hands out is new each time.
func TestNewMemory(t *testing.T) {
	x, y := New(), New()
	scribble(x)
	if want := []byte("CNDJ\x01"); !bytes.Equal(y, want) || !bytes.Equal(New(), want) {
		t.Error("two journals share memory")
	}
}

// 0.8: what is nil and what is empty are the same.
func TestNilAndEmpty(t *testing.T) {
	for _, b := range [][]byte{nil, {}} {
		if _, _, e := openAsSaid(t, b); e != api.ErrForm {
			t.Error(e)
		}
		if _, e := appendAsSaid(t, b, nil); e != api.ErrForm {
			t.Error(e)
		}
		if got, e := appendAsSaid(t, New(), b); e != api.OK || len(got) != 13 {
			t.Errorf("% x, %v", got, e)
		}
		if Sum(b) != 0 {
			t.Errorf("%08x", Sum(b))
		}
	}
}

// FuzzBytes looks for bytes of which Open or Append answers something else than the chapter says.
func FuzzBytes(f *testing.F) {
	r := newRandom(21)
	for range 20 {
		f.Add(turned(r, journalOf(randomRecords(r)...)), randomRecord(r))
	}
	f.Fuzz(func(t *testing.T, b, record []byte) {
		for _, b := range [][]byte{b, append(New(), b...), append(journalOf(b), b...)} {
			openAsSaid(t, b)
			if next, e := appendAsSaid(t, b, record); e == api.OK {
				openAsSaid(t, next)
			}
		}
		if Sum(b) != chapterSum(b) {
			t.Fatalf("% x: %08x", b, Sum(b))
		}
	})
}
