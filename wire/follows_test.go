package wire

import (
	"bytes"
	"slices"
	"testing"

	"conduit/api"
	"conduit/datum"
)

// P26.6: there and back, whatever stands behind.
func TestThereAndBack(t *testing.T) {
	r := newRandom(10)
	for range 10000 {
		behind := pick(r, nil, []byte{0}, []byte{128, 1}, []byte{167, 1, 5}, Encode(plain(3)))
		d := randomValue(r, api.MaxDeep)
		b := Datum(d)
		if !bytes.Equal(b, chapterDatum(d)) {
			t.Fatalf("%s: % x", datum.Print(d), short(b))
		}
		if got, n, e := ReadDatum(append(slices.Clip(b), behind...)); !datum.Same(got, d) || n != len(b) || e != api.OK {
			t.Fatalf("%s: %s, %d, %v", datum.Print(d), datum.Print(got), n, e)
		}
		m := randomMsg(r)
		b = encodeAsSaid(t, m)
		if got, n, e := Decode(append(slices.Clip(b), behind...)); !sameMsg(got, m) || n != len(b) || e != api.OK {
			t.Fatalf("%v: %v, %d, %v", m, got, n, e)
		}
	}
}

// P26.7, of values too: what is taken is written so.
func TestOneForm(t *testing.T) {
	r := newRandom(11)
	taken := 0
	for range 30000 {
		b := turned(r, Datum(randomValue(r, 5)))
		if d, n, e := ReadDatum(b); e == api.OK {
			taken++
			if !bytes.Equal(Datum(d), b[:n]) {
				t.Fatalf("% x is taken, and written % x", short(b[:n]), short(Datum(d)))
			}
		}
	}
	if taken < 1000 {
		t.Error("too few", taken)
	}
}

// P26.8: cut off anywhere, a frame is ErrFrame; so is a value's beginning, so that none is the beginning of another one.
func TestNoBeginning(t *testing.T) {
	r := newRandom(12)
	for range 300 {
		m := randomMsg(r)
		m.Topic, m.Reply = "t", pick(r, "", "r")
		frame, value := Encode(m), Datum(m.Body)
		for cut := range min(len(frame), 500) {
			if _, n, e := Decode(frame[:cut]); e != api.ErrFrame || n != 0 {
				t.Fatalf("% x cut off at %d: %d, %v", short(frame), cut, n, e)
			}
		}
		for cut := range min(len(value), 500) {
			if _, n, e := ReadDatum(value[:cut]); e != api.ErrFrame || n != 0 {
				t.Fatalf("% x cut off at %d: %d, %v", short(value), cut, n, e)
			}
		}
	}
}

// flip turns over bits from one on, the highest one of each byte first.
func flip(b []byte, at int, bits uint16) {
	for i := range 16 {
		if bits>>(15-i)&1 == 1 {
			b[(at+i)/8] ^= 128 >> ((at + i) % 8)
		}
	}
}

// P26.9: each stretch of at most 16 bits in a short frame, changed in each way.
func TestStretches(t *testing.T) {
	b := Encode(api.Msg{Id: 1, Topic: "t", Body: api.Datum{Kind: api.KInt, Int: 5}})
	const head = 3 * 8
	for at := head; at < len(b)*8; at++ {
		for bits := 1 << 15; bits < 1<<16; bits++ {
			changed := uint16(bits)
			if past := at + 16 - len(b)*8; past > 0 && changed<<(16-past) != 0 {
				continue
			}
			flip(b, at, changed)
			if _, _, e := Decode(b); e != api.ErrSum {
				t.Fatalf("% x: %v", b, e)
			}
			flip(b, at, changed)
		}
	}
}

// P26.9, of longer ones.
func TestStretchesOfLong(t *testing.T) {
	r := newRandom(13)
	for range 2000 {
		m := randomMsg(r)
		b := Encode(m)
		head := len(b) - len(chapterBody(m)) - 2
		was := bytes.Clone(b)
		flip(b, head*8+r.IntN((len(b)-head)*8-15), uint16(1+r.IntN(1<<16-1)))
		if _, n, e := Decode(b); e != api.ErrSum || n != 0 {
			t.Fatalf("% x, of % x: %d, %v", short(b), short(was), n, e)
		}
	}
}
