package packed_test

import (
	"bytes"
	"math"
	"reflect"
	"testing"

	"conduit/api"
	"conduit/packed"
)

func TestNumbers(t *testing.T) {
	for _, c := range []struct {
		n uint64
		b []byte
	}{
		{0, []byte{0}}, {1, []byte{1}}, {127, []byte{127}}, {128, []byte{128, 1}}, {300, []byte{0xac, 2}}, {16383, []byte{255, 127}}, {16384, []byte{128, 128, 1}},
		{math.MaxInt64, []byte{255, 255, 255, 255, 255, 255, 255, 255, 127}}, {math.MaxUint64, []byte{255, 255, 255, 255, 255, 255, 255, 255, 255, 1}}, {1 << 63, []byte{128, 128, 128, 128, 128, 128, 128, 128, 128, 1}},
	} {
		if got := packed.AppendNumber([]byte{9}, c.n); !bytes.Equal(got[1:], c.b) || got[0] != 9 {
			t.Errorf("%d: % x", c.n, got)
		}
		for _, most := range []uint64{c.n, math.MaxUint64} {
			r := packed.At(append(bytes.Clone(c.b), 200))
			if n := r.Number(most); n != c.n || r.Fault() != api.OK || r.Read() != len(c.b) || r.Left() != 1 {
				t.Errorf("% x: %d, %v, %d", c.b, n, r.Fault(), r.Read())
			}
		}
		for cut := range c.b {
			r := packed.At(c.b[:cut])
			if n := r.Number(c.n); n != 0 || r.Fault() != api.ErrFrame {
				t.Errorf("% x: %d, %v", c.b[:cut], n, r.Fault())
			}
		}
		if r := packed.At(c.b); c.n > 0 && (r.Number(c.n-1) != 0 || r.Fault() != api.ErrForm) {
			t.Errorf("% x, at most %d: %v", c.b, c.n-1, r.Fault())
		}
	}
}

func TestNoNumbers(t *testing.T) {
	for _, c := range []struct {
		b    []byte
		most uint64
		want api.Errno
	}{
		{nil, 0, api.ErrFrame}, {[]byte{0x80, 0}, math.MaxUint64, api.ErrForm}, {[]byte{0x80, 0x80, 0}, math.MaxUint64, api.ErrForm}, {[]byte{0x81, 0, 1}, math.MaxUint64, api.ErrForm},
		{bytes.Repeat([]byte{0x80}, 9), math.MaxUint64, api.ErrFrame}, {bytes.Repeat([]byte{255}, 9), math.MaxUint64, api.ErrFrame}, {bytes.Repeat([]byte{0x80}, 10), math.MaxUint64, api.ErrForm}, {bytes.Repeat([]byte{255}, 10), math.MaxUint64, api.ErrForm},
		{append(bytes.Repeat([]byte{255}, 9), 2), math.MaxUint64, api.ErrForm}, {append(bytes.Repeat([]byte{0x80}, 9), 3), math.MaxUint64, api.ErrForm}, {append(bytes.Repeat([]byte{0x80}, 9), 0), math.MaxUint64, api.ErrForm},
		{[]byte{0x80}, 0, api.ErrForm}, {[]byte{0x80}, 127, api.ErrForm}, {[]byte{0x80}, 128, api.ErrFrame}, {[]byte{0x81}, 128, api.ErrForm}, {[]byte{0x81}, 129, api.ErrFrame}, {[]byte{0xff}, 254, api.ErrForm}, {[]byte{0xff}, 255, api.ErrFrame},
		{[]byte{0x80, 0x80}, 1 << 14, api.ErrFrame}, {[]byte{0x80, 0x80}, 1<<14 - 1, api.ErrForm}, {[]byte{0x80, 2}, 255, api.ErrForm}, {[]byte{0x80, 2}, 256, api.OK}, {[]byte{0x81, 2}, 256, api.ErrForm},
		{bytes.Repeat([]byte{0x80}, 9), math.MaxInt64, api.ErrForm}, {bytes.Repeat([]byte{255}, 8), math.MaxInt64, api.ErrFrame},
	} {
		r := packed.At(c.b)
		if n := r.Number(c.most); r.Fault() != c.want || c.want != api.OK && n != 0 {
			t.Errorf("% x, at most %d: %d, %v", c.b, c.most, n, r.Fault())
		}
	}
}

func TestSigned(t *testing.T) {
	for _, c := range []struct {
		n int64
		b []byte
	}{
		{0, []byte{0}}, {-1, []byte{1}}, {1, []byte{2}}, {-2, []byte{3}}, {63, []byte{126}}, {-64, []byte{127}}, {64, []byte{128, 1}}, {-65, []byte{129, 1}}, {300, []byte{0xd8, 4}},
		{math.MaxInt64, []byte{254, 255, 255, 255, 255, 255, 255, 255, 255, 1}}, {math.MinInt64, []byte{255, 255, 255, 255, 255, 255, 255, 255, 255, 1}},
	} {
		if got := packed.AppendSigned(nil, c.n); !bytes.Equal(got, c.b) {
			t.Errorf("%d: % x", c.n, got)
		}
		if r := packed.At(c.b); r.Signed() != c.n || r.Fault() != api.OK || r.Left() != 0 {
			t.Errorf("% x is not %d: %v", c.b, c.n, r.Fault())
		}
	}
	if r := packed.At([]byte{0x81}); r.Signed() != 0 || r.Fault() != api.ErrFrame {
		t.Error(r.Fault())
	}
}

func TestTexts(t *testing.T) {
	b := packed.AppendText([]byte{9}, "ab\x00")
	if !bytes.Equal(b, []byte{9, 3, 'a', 'b', 0}) {
		t.Errorf("% x", b)
	}
	for _, c := range []struct {
		most int
		s    string
		want api.Errno
	}{{2, "", api.ErrForm}, {3, "ab\x00", api.OK}, {4, "ab\x00", api.OK}} {
		r := packed.At(b)
		r.Mark(9)
		if s := r.Text(c.most); s != c.s || r.Fault() != c.want {
			t.Errorf("at most %d: %q, %v", c.most, s, r.Fault())
		}
	}
	r := packed.At(b[1:4])
	if s := r.Text(9); s != "" || r.Fault() != api.ErrFrame {
		t.Errorf("%q, %v", s, r.Fault())
	}
	r = packed.At(b[1:])
	s := r.Text(9)
	b[2] = 'x'
	if s != "ab\x00" {
		t.Errorf("%q: a text changed with the bytes that it was read of", s)
	}
}

func TestFixed(t *testing.T) {
	for _, c := range []struct {
		n     uint64
		width int
		b     []byte
	}{
		{0, 0, nil}, {0, 2, []byte{0, 0}}, {1, 1, []byte{1}}, {0x1234, 2, []byte{0x34, 0x12}}, {0xfffe, 2, []byte{0xfe, 0xff}}, {0xe8b7be43, 4, []byte{0x43, 0xbe, 0xb7, 0xe8}},
		{math.MaxUint64, 8, []byte{255, 255, 255, 255, 255, 255, 255, 255}}, {1 << 63, 8, []byte{0, 0, 0, 0, 0, 0, 0, 128}},
	} {
		if got := packed.AppendFixed([]byte{9}, c.n, c.width); !bytes.Equal(got[1:], c.b) || got[0] != 9 {
			t.Errorf("%x in %d: % x", c.n, c.width, got)
		}
		r := packed.At(append(bytes.Clone(c.b), 200))
		if n := r.Fixed(c.width); n != c.n || r.Fault() != api.OK || r.Read() != c.width {
			t.Errorf("% x: %x, %v, %d", c.b, n, r.Fault(), r.Read())
		}
		for cut := range c.b {
			r := packed.At(c.b[:cut])
			if n := r.Fixed(c.width); n != 0 || r.Fault() != api.ErrFrame {
				t.Errorf("% x: %x, %v", c.b[:cut], n, r.Fault())
			}
		}
	}
	if got := packed.AppendFixed(nil, 0x12345, 2); !bytes.Equal(got, []byte{0x45, 0x23}) {
		t.Errorf("% x: what does not lie in two bytes is left out", got)
	}
}

func TestTruths(t *testing.T) {
	if b := packed.AppendTruth(packed.AppendTruth([]byte{9}, true), false); !bytes.Equal(b, []byte{9, 1, 0}) {
		t.Errorf("% x", b)
	}
	for _, c := range []struct {
		b    []byte
		is   bool
		want api.Errno
	}{{[]byte{0, 9}, false, api.OK}, {[]byte{1, 9}, true, api.OK}, {[]byte{2, 9}, false, api.ErrForm}, {[]byte{255}, false, api.ErrForm}, {nil, false, api.ErrFrame}} {
		r := packed.At(c.b)
		if is := r.Truth(); is != c.is || r.Fault() != c.want || c.want == api.OK && r.Left() != 1 {
			t.Errorf("% x: %t, %v", c.b, is, r.Fault())
		}
	}
}

// Rest is what is left, read or not.
func TestRest(t *testing.T) {
	r := packed.At([]byte{5, 7, 1})
	if b := r.Rest(); !bytes.Equal(b, []byte{5, 7, 1}) || r.Read() != 0 {
		t.Errorf("% x", b)
	}
	r.Byte()
	if b := r.Rest(); !bytes.Equal(b, []byte{7, 1}) || len(b) != r.Left() {
		t.Errorf("% x", b)
	}
	r.Bytes(2)
	if b := r.Rest(); len(b) != 0 || r.Fault() != api.OK {
		t.Errorf("% x", b)
	}
}

// What fails first is kept, and all behind it is nought.
func TestFirstFault(t *testing.T) {
	r := packed.At([]byte{5, 7, 1, 'a', 8})
	if b := r.Bytes(1); len(b) != 1 || b[0] != 5 || r.Read() != 1 || r.Left() != 4 || r.Fault() != api.OK {
		t.Fatal(b, r)
	}
	r.Mark(6)
	r.Fail(api.ErrSum)
	read := r.Read()
	if r.Fault() != api.ErrForm || r.Byte() != 0 || r.Number(9) != 0 || r.Signed() != 0 || r.Text(9) != "" || r.Fixed(2) != 0 || len(r.Bytes(1)) != 0 || r.Read() != read || r.Fault() != api.ErrForm {
		t.Error(r)
	}
	r = packed.At([]byte{5})
	if len(r.Bytes(2)) != 0 || r.Fault() != api.ErrFrame {
		t.Error(r)
	}
	r.Mark(5)
	r.Fail(api.OK)
	if r.Fault() != api.ErrFrame {
		t.Error(r)
	}
	r = packed.At(nil)
	if r.Mark(0); r.Fault() != api.ErrFrame {
		t.Error("a byte that must stand there, behind the end:", r.Fault())
	}
}

// What is given up, from however deep within, has not the form; nothing else is taken for that.
func TestGivenUp(t *testing.T) {
	done := 0
	if fault := packed.Caught(func() { packed.Need(true); done++ }); fault != api.OK || done != 1 {
		t.Error(fault, done)
	}
	deep := func() { packed.Need(false); done++ }
	if fault := packed.Caught(func() { deep(); done++ }); fault != api.ErrForm || done != 1 {
		t.Error(fault, done)
	}
	if fault := packed.Caught(func() {
		if inner := packed.Caught(deep); inner != api.ErrForm {
			t.Error(inner)
		}
		done++
	}); fault != api.OK || done != 2 {
		t.Error(fault, done)
	}
	for _, other := range []any{"other", api.ErrForm, []int{1}} {
		came := func() (came any) {
			defer func() { came = recover() }()
			packed.Caught(func() { panic(other) })
			return nil
		}()
		if !reflect.DeepEqual(came, other) {
			t.Errorf("%v became %v", other, came)
		}
	}
}
