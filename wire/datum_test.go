package wire

import (
	"bytes"
	"math"
	"slices"
	"strings"
	"testing"

	"conduit/api"
	"conduit/datum"
)

// full is as great a text as may be.
var full = strings.Repeat("f", api.MaxBytes)

// P26.1, Datum: each kind's bytes.
func TestDatum(t *testing.T) {
	for _, c := range []struct {
		d string
		b []byte
	}{
		{"nil", []byte{0}}, {"0", []byte{1, 0}}, {"1", []byte{1, 2}}, {"63", []byte{1, 126}}, {"-64", []byte{1, 127}}, {"64", []byte{1, 128, 1}}, {"#-2", []byte{2, 3}},
		{"9223372036854775807", []byte{1, 254, 255, 255, 255, 255, 255, 255, 255, 255, 1}}, {"-9223372036854775808", []byte{1, 255, 255, 255, 255, 255, 255, 255, 255, 255, 1}},
		{"f0123456789abcdef", []byte{3, 0xef, 0xcd, 0xab, 0x89, 0x67, 0x45, 0x23, 1}}, {`""`, []byte{4, 0}}, {`"ab"`, []byte{4, 2, 'a', 'b'}}, {`@"n"`, []byte{5, 1, 'n'}},
		{"false", []byte{6, 0}}, {"true", []byte{6, 1}}, {"%00ff", []byte{7, 2, 0, 255}}, {"[]", []byte{8, 0}}, {"[[], 1]", []byte{8, 2, 8, 0, 1, 2}}, {"(1, (nil, {}))", []byte{9, 1, 2, 9, 0, 13}},
		{`!-3"e"`, []byte{10, 5, 1, 'e'}}, {`&200(&nil)`, []byte{11, 200, 1, 12}}, {"&9223372036854775807(nil)", []byte{11, 255, 255, 255, 255, 255, 255, 255, 255, 127, 0}}, {"&nil", []byte{12}}, {"{}", []byte{13}},
	} {
		d := read(t, c.d)
		if got := Datum(d); !bytes.Equal(got, c.b) {
			t.Errorf("%s: % x", c.d, got)
		}
		if got, n, e := readAsSaid(t, append(c.b, 14, 255)); !datum.Same(got, d) || n != len(c.b) || e != api.OK {
			t.Errorf("% x: %s, %d, %v", c.b, datum.Print(got), n, e)
		}
	}
}

// P26.1, ReadDatum: what is no value from its last byte on, but, of each, none is told ahead of that byte.
func TestReadNone(t *testing.T) {
	for _, b := range [][]byte{
		{14}, {255}, {6, 2}, {6, 0x80}, {6, 255}, {11, 0}, {1, 0x80, 0}, {4, 0x80, 0}, {8, 0x80, 0}, {11, 0x81, 0}, {10, 0x80, 0}, {10, 0, 0x80, 0},
		{4, 0x80, 0x80, 4}, {5, 0x80, 0x80, 4}, {7, 255, 255, 4}, {10, 0, 0x80, 0x80, 4}, {4, 0x80, 0x80, 0x80}, {8, 0x80, 0x20}, {8, 0x80, 0x80}, {8, 255, 0x80}, {8, 2, 8, 255, 31}, {8, 2, 8, 254, 31},
		{1, 128, 128, 128, 128, 128, 128, 128, 128, 128, 2}, {2, 255, 255, 255, 255, 255, 255, 255, 255, 255, 128}, {11, 128, 128, 128, 128, 128, 128, 128, 128, 128}, {9, 0, 14}, {8, 1, 14}, {11, 1, 14},
	} {
		if _, n, e := readAsSaid(t, b); e != api.ErrForm || n != 0 {
			t.Errorf("% x: %d, %v", b, n, e)
		}
		if _, n, e := readAsSaid(t, b[:len(b)-1]); e != api.ErrFrame || n != 0 {
			t.Errorf("% x: %d, %v", b[:len(b)-1], n, e)
		}
	}
}

// P26.1, ReadDatum: as deep as may be, and deeper: a value that must have parts is none there from its kind on, a list is from its number on.
func TestReadDeep(t *testing.T) {
	around := bytes.Repeat([]byte{8, 1}, api.MaxDeep-1)
	for _, c := range []struct {
		in   []byte
		want api.Errno
	}{
		{nil, api.ErrFrame}, {[]byte{0}, api.OK}, {[]byte{1, 2}, api.OK}, {[]byte{8}, api.ErrFrame}, {[]byte{8, 0}, api.OK}, {[]byte{8, 1}, api.ErrForm}, {[]byte{8, 0x80}, api.ErrForm},
		{[]byte{9}, api.ErrForm}, {[]byte{11}, api.ErrForm}, {[]byte{12}, api.OK}, {[]byte{10}, api.ErrFrame},
	} {
		b := append(bytes.Clone(around), c.in...)
		if _, _, e := readAsSaid(t, b); e != c.want {
			t.Errorf("% x: %v", b, e)
		}
	}
	for _, kinds := range [][]byte{{9}, {11, 5}} {
		b := bytes.Repeat(kinds, api.MaxDeep-1)
		if _, _, e := readAsSaid(t, b); e != api.ErrFrame {
			t.Errorf("% x: %v", b, e)
		}
		if _, _, e := readAsSaid(t, append(b, kinds[0])); e != api.ErrForm {
			t.Errorf("% x: %v", b, e)
		}
	}
	// How deep it is is counted anew behind what was deeper.
	d := list(nested(api.MaxDeep-2, api.Datum{}), nested(api.MaxDeep-2, text("x")))
	if got, _, e := readAsSaid(t, Datum(d)); e != api.OK || !datum.Same(got, d) {
		t.Error(datum.Print(got), e)
	}
}

// P26.1, ReadDatum: as many parts as may be, and more: those that must come are counted ahead of what they are.
func TestReadMany(t *testing.T) {
	for _, n := range []int{0, 1, 127, 128, api.MaxItems - 1} {
		if got, _, e := readAsSaid(t, Datum(many(n))); e != api.OK || len(got.List) != n {
			t.Error(n, len(got.List), e)
		}
	}
	// ahead is a list of all parts that there may be but so many.
	ahead := func(left int) []byte { return Datum(many(api.MaxItems - 1 - left)) }
	for _, c := range []struct {
		left int
		in   []byte
		want api.Errno
	}{
		{0, []byte{8}, api.ErrFrame}, {0, []byte{8, 0}, api.ErrFrame}, {0, []byte{8, 1}, api.ErrForm}, {0, []byte{8, 0x80}, api.ErrForm}, {0, []byte{9}, api.ErrForm}, {0, []byte{11}, api.ErrForm},
		{1, []byte{8, 1}, api.ErrFrame}, {1, []byte{8, 2}, api.ErrForm}, {1, []byte{9}, api.ErrForm}, {1, []byte{11}, api.ErrFrame}, {1, []byte{11, 1, 8}, api.ErrFrame}, {1, []byte{11, 1, 9}, api.ErrForm}, {1, []byte{11, 1, 11}, api.ErrForm},
		{2, []byte{9}, api.ErrFrame}, {2, []byte{9, 9}, api.ErrForm}, {2, []byte{8, 2}, api.ErrFrame}, {2, []byte{8, 3}, api.ErrForm}, {128, []byte{8, 0x80}, api.ErrFrame}, {127, []byte{8, 0x80}, api.ErrForm}, {128, []byte{8, 0x80, 1}, api.ErrFrame}, {128, []byte{8, 0x81}, api.ErrForm},
	} {
		b := ahead(c.left)
		b = append(b[:3], c.in...)
		if _, _, e := readAsSaid(t, b); e != c.want {
			t.Errorf("% x: %v", b, e)
		}
	}
}

// P26.1, ReadDatum: texts as long as may be.
func TestReadLong(t *testing.T) {
	for _, kind := range []int{api.KText, api.KName, api.KBytes, api.KErr} {
		d := api.Datum{Kind: kind, Text: full}
		b := Datum(d)
		if got, n, e := readAsSaid(t, append(b, 'f')); e != api.OK || n != len(b) || !datum.Same(got, d) {
			t.Error(kind, n, e)
		}
		if _, _, e := readAsSaid(t, b[:len(b)-1]); e != api.ErrFrame {
			t.Error(kind, e)
		}
	}
}

// P26.1, ReadDatum: the bytes of any float are of one.
func TestReadFloats(t *testing.T) {
	for _, bits := range []uint64{0, 1, 1 << 63, math.MaxUint64, math.Float64bits(math.Inf(1)), 0x7ff0000000000001, math.Float64bits(math.NaN())} {
		d := api.Datum{Kind: api.KFloat, Bits: bits}
		if got, n, e := readAsSaid(t, Datum(d)); e != api.OK || n != 9 || got.Bits != bits {
			t.Errorf("%x: %x, %d, %v", bits, got.Bits, n, e)
		}
	}
}

// P26.1, on all bytes: up to two of them, and up to five of those at which something happens.
func TestReadAll(t *testing.T) {
	for x := range 1 << 16 {
		readAsSaid(t, []byte{byte(x)})
		readAsSaid(t, []byte{byte(x), byte(x >> 8)})
	}
	some := []byte{0, 1, 2, 4, 6, 8, 9, 10, 11, 128}
	var all func(b []byte)
	all = func(b []byte) {
		readAsSaid(t, b)
		if len(b) == 5 {
			return
		}
		for _, x := range some {
			all(append(slices.Clip(b), x))
		}
	}
	all(nil)
}

// P26.1, on bytes of values of which some were turned.
func TestReadTurned(t *testing.T) {
	r := newRandom(1)
	seen := map[api.Errno]int{}
	for range 30000 {
		b := turned(r, Datum(randomValue(r, 5)))
		_, _, e := readAsSaid(t, b)
		seen[e]++
	}
	if seen[api.OK] < 1000 || seen[api.ErrFrame] < 1000 || seen[api.ErrForm] < 1000 {
		t.Error("too few of a sort", seen)
	}
}

// P26.1: ErrFrame just where something may stand behind, so that it goes on; behind what is no value, or behind one that is whole, nothing changes that.
func TestReadOn(t *testing.T) {
	r := newRandom(2)
	for range 3000 {
		b := turned(r, Datum(randomValue(r, 4)))
		if r.IntN(2) == 0 {
			b = b[:r.IntN(len(b)+1)]
		}
		_, n, e := readAsSaid(t, b)
		goesOn := false
		for x := range 256 {
			_, n2, e2 := ReadDatum(append(slices.Clip(b), byte(x)))
			goesOn = goesOn || e2 != api.ErrForm
			if e != api.ErrFrame && (e2 != e || n2 != n) {
				t.Fatalf("% x: %v, with %x behind: %v", short(b), e, x, e2)
			}
		}
		if e == api.ErrFrame && !goesOn {
			t.Fatalf("% x: nothing may stand behind", short(b))
		}
	}
}
