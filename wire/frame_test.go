package wire

import (
	"bytes"
	"math"
	"slices"
	"strings"
	"testing"

	"conduit/api"
	"conduit/datum"
)

// P26.2: each field stands where it must, in its form.
func TestEncode(t *testing.T) {
	body := func(b ...byte) []byte { return frameOf(b) }
	for _, c := range []struct {
		m    api.Msg
		want []byte
	}{
		{plain(7), body(14, 0, 0, 0, 0, 0, 1, 't', 0, 0)},
		{api.Msg{Topic: "t", At: 64}, body(0, 128, 1, 0, 0, 0, 0, 1, 't', 0, 0)},
		{api.Msg{Topic: "t", Until: 2}, body(0, 0, 4, 0, 0, 0, 1, 't', 0, 0)},
		{api.Msg{Topic: "t", Corr: 3}, body(0, 0, 0, 6, 0, 0, 1, 't', 0, 0)},
		{api.Msg{Topic: "t", Prio: -4}, body(0, 0, 0, 0, 7, 0, 1, 't', 0, 0)},
		{api.Msg{Topic: "t", Hops: 5}, body(0, 0, 0, 0, 0, 10, 1, 't', 0, 0)},
		{api.Msg{Topic: "a/b", Reply: "rr", Body: text("x")}, body(0, 0, 0, 0, 0, 0, 3, 'a', '/', 'b', 2, 'r', 'r', 4, 1, 'x')},
	} {
		got := encodeAsSaid(t, c.m)
		if !bytes.Equal(got, c.want) {
			t.Errorf("%v: % x, not % x", c.m, got, c.want)
		}
		if m, n, e := decodeAsSaid(t, got); e != api.OK || n != len(got) || !sameMsg(m, c.m) {
			t.Errorf("% x: %v, %d, %v", got, m, n, e)
		}
	}
}

// P26.2, P26.6, P26.7 of the greatest and the least that a message may have.
func TestEncodeEnds(t *testing.T) {
	for _, m := range []api.Msg{
		{Id: math.MaxInt64, Topic: full, Reply: full, At: api.MaxTick, Until: api.MaxTick, Corr: math.MaxInt64, Prio: math.MaxInt64, Hops: api.MaxHops, Body: nested(api.MaxDeep-1, text(full))},
		{Topic: "$", Prio: math.MinInt64, Body: many(api.MaxItems - 1)},
	} {
		b := encodeAsSaid(t, m)
		if got, n, e := decodeAsSaid(t, b); e != api.OK || n != len(b) || !sameMsg(got, m) {
			t.Error(n, e)
		}
	}
}

// long is a message whose body has so many bytes, most of them in texts.
func long(t *testing.T, bytes int) api.Msg {
	t.Helper()
	m := plain(1)
	l := make([]api.Datum, bytes/(api.MaxBytes+4)+1)
	for i := range l {
		l[i] = text(full)
	}
	last := &l[len(l)-1]
	*last = text(full[:1<<14])
	m.Body = list(l...)
	last.Text = full[:1<<14+bytes-len(chapterBody(m))]
	if got := len(chapterBody(m)); got != bytes || !datum.Valid(m.Body) {
		t.Fatal(got, bytes)
	}
	return m
}

// P26.2: just as many bytes as there may be, and one more; very many more.
func TestEncodeLong(t *testing.T) {
	m := long(t, 1<<24)
	b := Encode(m)
	if !bytes.Equal(b, chapterEncode(m)) || len(b) != 1<<24+8 {
		t.Fatal(len(b))
	}
	if got, n, e := Decode(b); e != api.OK || n != len(b) || !sameMsg(got, m) {
		t.Error(n, e)
	}
	if b := Encode(long(t, 1<<24+1)); len(b) != 0 {
		t.Error(len(b))
	}
	m.Body = list(slices.Repeat([]api.Datum{text(full)}, api.MaxItems-1)...)
	if b := Encode(m); len(b) != 0 {
		t.Error(len(b))
	}
	// No value in it has a text.
	m.Body = many(api.MaxItems - 1)
	m.Topic, m.Reply = full, full
	if b := Encode(m); !bytes.Equal(b, chapterEncode(m)) {
		t.Error(len(b))
	}
}

// P26.3, the first one: what no frame begins with, told at its last byte and not ahead of it.
func TestDecodeForm(t *testing.T) {
	for _, b := range [][]byte{
		{0}, {168}, {1}, {167, 0}, {167, 2}, {167, 167}, {167, 1, 0x80, 0}, {167, 1, 0x80, 0x80, 0}, {167, 1, 0x80, 0x80, 0x80, 0x80}, {167, 1, 0x81, 0x80, 0x80, 8}, {167, 1, 0x80, 0x80, 0x80, 9}, {167, 1, 255, 255, 255, 8}, {167, 1, 255, 255, 255, 255},
	} {
		for _, behind := range []string{"", "\x00", strings.Repeat("\x00", 99)} {
			if _, n, e := decodeAsSaid(t, append(slices.Clip(b), behind...)); e != api.ErrForm || n != 0 {
				t.Errorf("% x: %d, %v", b, n, e)
			}
		}
		if _, n, e := decodeAsSaid(t, b[:len(b)-1]); e != api.ErrFrame || n != 0 {
			t.Errorf("% x: %d, %v", b[:len(b)-1], n, e)
		}
	}
	for _, b := range [][]byte{{167, 1, 0x80, 0x80, 0x80, 8}, {167, 1, 255, 255, 255, 7}, {167, 1, 255, 255, 255}, {167, 1, 0}, {167, 1, 0, 255}, {167, 1, 5, 255, 255, 255, 255, 255, 255}} {
		if _, n, e := decodeAsSaid(t, b); e != api.ErrFrame || n != 0 {
			t.Errorf("% x: %d, %v", b, n, e)
		}
	}
}

// P26.3: a body of no fit message, whose sum is right.
func TestDecodeBody(t *testing.T) {
	good := chapterBody(api.Msg{Id: 1, Topic: "t", Body: text("x"), Reply: "r"})
	var bad [][]byte
	for i := range good {
		bad = append(bad, good[:i])
	}
	bad = append(bad, append(slices.Clip(good), 0))
	for _, m := range []api.Msg{
		{}, {Topic: "+"}, {Topic: "a/#"}, {Topic: "t", Reply: "#"}, {Topic: "\x00"}, {Topic: "t", Reply: "\xff"}, {Topic: full + "f"}, {Topic: "t", Reply: full + "f"},
		{Topic: "t", At: -1}, {Topic: "t", At: api.MaxTick + 1}, {Topic: "t", Until: -1}, {Topic: "t", Until: api.MaxTick + 1}, {Topic: "t", Hops: -1}, {Topic: "t", Hops: api.MaxHops + 1},
		{Topic: "t", Id: -1}, {Topic: "t", Corr: -1}, {Topic: "t", Id: math.MinInt64}, {Topic: "t", Body: api.Datum{Kind: 14}}, {Topic: "t", Body: many(api.MaxItems)}, {Topic: "t", Body: nested(api.MaxDeep, api.Datum{})}, {Topic: "t", Body: text(full + "f")},
		{Topic: "t", Body: api.Datum{Kind: api.KBool, Int: 2}}, {Topic: "t", Body: api.Datum{Kind: api.KPtr, List: make([]api.Datum, 1)}},
	} {
		bad = append(bad, chapterBody(m))
	}
	for _, body := range append(bad, []byte{0x80, 0, 0, 0, 0, 0, 0, 1, 't', 0, 0}, []byte{0, 0, 0, 0, 0, 0, 0x81, 0, 't', 0, 0}) {
		b := frameOf(body)
		if _, n, e := decodeAsSaid(t, b); e != api.ErrForm || n != 0 {
			t.Errorf("% x: %d, %v", short(b), n, e)
		}
		b[len(b)-1] ^= 1
		if _, n, e := decodeAsSaid(t, b); e != api.ErrSum || n != 0 {
			t.Errorf("% x: %d, %v: the sum is looked at first", short(b), n, e)
		}
		if _, n, e := decodeAsSaid(t, b[:len(b)-1]); e != api.ErrFrame || n != 0 {
			t.Errorf("% x: %d, %v: it is not whole", short(b), n, e)
		}
	}
	if _, n, e := decodeAsSaid(t, append(frameOf(good), 77)); e != api.OK || n != len(good)+5 {
		t.Error(n, e)
	}
}

// P26.3, P26.7, on frames of which some bytes were turned, in the body with a sum that is right.
func TestDecodeTurned(t *testing.T) {
	r := newRandom(3)
	seen := map[api.Errno]int{}
	for range 20000 {
		m := randomMsg(r)
		b := turned(r, frameOf(chapterBody(m)))
		if r.IntN(4) > 0 {
			b = frameOf(turned(r, chapterBody(m)))
		}
		got, n, e := decodeAsSaid(t, b)
		if e == api.OK && !bytes.Equal(encodeAsSaid(t, got), b[:n]) {
			t.Fatalf("% x is taken, and not written so", short(b))
		}
		seen[e]++
	}
	if seen[api.OK] < 500 || seen[api.ErrFrame] < 500 || seen[api.ErrForm] < 500 || seen[api.ErrSum] < 500 {
		t.Error("too few of a sort", seen)
	}
}

// P26.4
func TestAll(t *testing.T) {
	one, two := Encode(plain(1)), Encode(api.Msg{Id: 2, Topic: "u", Body: text("two")})
	wrong := bytes.Clone(two)
	wrong[4] ^= 1
	both := slices.Concat(one, two)
	for _, c := range []struct {
		b    []byte
		many int
		n    int
		want api.Errno
	}{
		{nil, 0, 0, api.OK}, {one, 1, len(one), api.OK}, {both, 2, len(both), api.OK}, {slices.Concat(both, both), 4, 2 * len(both), api.OK},
		{both[:len(both)-1], 1, len(one), api.ErrFrame}, {append(both[:len(one):len(one)], 167), 1, len(one), api.ErrFrame}, {append(both[:len(both):len(both)], 0), 2, len(both), api.ErrForm}, {slices.Concat([]byte{0}, both), 0, 0, api.ErrForm},
		{slices.Concat(one, wrong, one), 1, len(one), api.ErrSum}, {slices.Concat(one, frameOf([]byte{0}), one), 1, len(one), api.ErrForm}, {one[:3], 0, 0, api.ErrFrame},
	} {
		if l, n, e := allAsSaid(t, c.b); len(l) != c.many || n != c.n || e != c.want {
			t.Errorf("% x: %d, %d, %v", c.b, len(l), n, e)
		}
	}
}

// P26.4, on any rows of frames.
func TestAllRows(t *testing.T) {
	r := newRandom(4)
	for range 1000 {
		var made []api.Msg
		var b []byte
		for range r.IntN(6) {
			m := randomMsg(r)
			made, b = append(made, m), append(b, Encode(m)...)
		}
		if l, n, e := allAsSaid(t, b); !sameMsgs(l, made) || n != len(b) || e != api.OK {
			t.Fatal(len(l), len(made), n, e)
		}
		allAsSaid(t, turned(r, b))
	}
}

// P26.5
func TestSum(t *testing.T) {
	for _, c := range []struct {
		s    string
		want uint16
	}{{"", 0xffff}, {"123456789", 0x29b1}, {"A", 0xb915}, {"\x00", 0xe1f0}, {"\xff\xff", 0}, {"\x00\x00", 0x1d0f}} {
		if got := Sum([]byte(c.s)); got != c.want {
			t.Errorf("%q: %04x", c.s, got)
		}
	}
	for x := range 1 << 16 {
		b := []byte{byte(x), byte(x >> 8)}
		if Sum(b) != chapterSum(b) || Sum(b[:1]) != chapterSum(b[:1]) {
			t.Fatalf("% x: %04x, not %04x", b, Sum(b), chapterSum(b))
		}
	}
	r := newRandom(5)
	for n := range 600 {
		b := make([]byte, n)
		for i := range b {
			b[i] = byte(r.Uint32())
		}
		if Sum(b) != chapterSum(b) {
			t.Fatalf("% x: %04x, not %04x", b, Sum(b), chapterSum(b))
		}
	}
}
