package wire

import (
	"bytes"
	"math"
	"slices"
	"testing"

	"conduit/api"
	"conduit/datum"
)

// Every call ends and none panics, at values and messages of which nothing else is promised too.
func TestAnything(t *testing.T) {
	for _, n := range []int{math.MinInt64, -1, 0, api.NumKinds, math.MaxInt64} {
		for kind := range api.NumKinds {
			for _, l := range [][]api.Datum{nil, {{}}, make([]api.Datum, api.MaxItems+5)} {
				d := api.Datum{Kind: kind, Int: int64(n), Bits: uint64(n), Text: full + "more", List: l}
				odd := api.Datum{Kind: n, Int: int64(n), List: []api.Datum{d}}
				Datum(d)
				Datum(odd)
				Encode(api.Msg{Id: int64(n), Topic: "#", Body: d, At: -1, Until: int64(n), Reply: full + "more", Corr: int64(n), Prio: n, Hops: n})
				Encode(api.Msg{Body: odd})
			}
		}
	}
	Datum(nested(5000, api.Datum{}))
}

// roomyBody is a value whose lists lie in memory with spare room behind them, where something else stands.
func roomyBody(d api.Datum) api.Datum {
	var l []api.Datum
	for _, p := range d.List {
		l = append(l, roomyBody(p))
	}
	d.List = append(slices.Clip(l), api.Datum{Kind: api.KInt, Int: 77})[:len(l)]
	return d
}

// asMade tells whether nothing was written there since, in the spare room neither.
func asMade(got, made api.Datum) bool {
	behind := got.List[:len(got.List)+1][len(got.List)]
	return behind.Kind == api.KInt && behind.Int == 77 && got.Kind == made.Kind && slices.EqualFunc(got.List, made.List, asMade)
}

func scribble(d api.Datum) {
	l := d.List[:cap(d.List)]
	for i := range l {
		scribble(l[i])
		l[i] = api.Datum{Kind: -1, Text: "scribbled"}
	}
}

// roomyBytes is bytes with spare room behind them, in which such stand that would go on.
func roomyBytes(b []byte) []byte {
	return slices.Concat(b, []byte{1, 2, 3})[:len(b)]
}

func scribbleBytes(b []byte) { clear(b[:cap(b)]) }

// 0.3, 0.4, 0.8 of what is written.
func TestWrittenMemory(t *testing.T) {
	r := newRandom(20)
	for range 3000 {
		m := randomMsg(r)
		in := m
		in.Body = roomyBody(m.Body)
		value, frame := Datum(in.Body), Encode(in)
		if !asMade(in.Body, m.Body) {
			t.Fatal("what was handed in has changed, or its spare room")
		}
		scribble(in.Body)
		if !bytes.Equal(value, chapterDatum(m.Body)) || !bytes.Equal(frame, chapterEncode(m)) {
			t.Fatal("what was answered changed with what was handed in, or its spare room plays a part")
		}
		scribbleBytes(value)
		scribbleBytes(frame)
		if !bytes.Equal(Datum(m.Body), chapterDatum(m.Body)) || !bytes.Equal(Encode(m), chapterEncode(m)) {
			t.Fatal("what is answered hangs on what became of an answer")
		}
	}
}

// lists is where all lists of values begin and end, spare room too.
func lists(l []api.Datum) (out []*api.Datum) {
	for _, d := range l {
		if n := cap(d.List); n > 0 {
			for i := range d.List[:n] {
				out = append(out, &d.List[:n][i])
			}
		}
		out = append(out, lists(d.List)...)
	}
	return out
}

// apart tells whether no two lists of values share memory.
func apart(l []api.Datum) bool {
	seen := map[*api.Datum]bool{}
	for _, p := range lists(l) {
		if seen[p] {
			return false
		}
		seen[p] = true
	}
	return true
}

func bodies(l []api.Msg) (out []api.Datum) {
	for _, m := range l {
		out = append(out, m.Body)
	}
	return out
}

// 0.3, 0.4, 0.8 of what is read: texts, which may not change, hang on no bytes that do.
func TestReadMemory(t *testing.T) {
	r := newRandom(21)
	for range 2000 {
		m := randomMsg(r)
		value, frames := roomyBytes(Datum(m.Body)), roomyBytes(slices.Repeat(Encode(m), 3))
		wasValue, wasFrames := bytes.Clone(value[:cap(value)]), bytes.Clone(frames[:cap(frames)])
		d, _, _ := ReadDatum(value)
		one, _, _ := Decode(frames)
		l, n, e := All(frames)
		if n != len(frames) || e != api.OK || !bytes.Equal(value[:cap(value)], wasValue) || !bytes.Equal(frames[:cap(frames)], wasFrames) {
			t.Fatal("what was handed in has changed, or its spare room, or that plays a part")
		}
		scribbleBytes(value)
		scribbleBytes(frames)
		if !datum.Same(d, m.Body) || !sameMsg(one, m) || !sameMsgs(l, []api.Msg{m, m, m}) {
			t.Fatal("what was answered changed with what was handed in")
		}
		if !apart(append(bodies(l), d, one.Body)) {
			t.Fatal("two lists share memory")
		}
	}
}

// 0.8: what is nil and what is empty are the same.
func TestNilAndEmpty(t *testing.T) {
	if !bytes.Equal(Datum(list()), Datum(api.Datum{Kind: api.KList, List: []api.Datum{}})) {
		t.Error("an empty list")
	}
	for _, b := range [][]byte{nil, {}} {
		readAsSaid(t, b)
		decodeAsSaid(t, b)
		allAsSaid(t, b)
		if Sum(b) != 0xffff {
			t.Errorf("%04x", Sum(b))
		}
	}
}

// FuzzBytes looks for bytes that are read otherwise than the chapter says, as they are and as a frame's body.
func FuzzBytes(f *testing.F) {
	r := newRandom(22)
	for range 40 {
		m := randomMsg(r)
		m.Topic = "t"
		f.Add(Datum(m.Body))
		f.Add(chapterBody(m))
		f.Add(Encode(m))
	}
	f.Fuzz(func(t *testing.T, b []byte) {
		if d, n, e := readAsSaid(t, b); e == api.OK && !bytes.Equal(Datum(d), b[:n]) {
			t.Fatalf("% x: written % x", b[:n], Datum(d))
		}
		for _, frames := range [][]byte{b, frameOf(b), append(frameOf(b), b...)} {
			if m, n, e := decodeAsSaid(t, frames); e == api.OK && !bytes.Equal(Encode(m), frames[:n]) {
				t.Fatalf("% x: written % x", frames[:n], Encode(m))
			}
			allAsSaid(t, frames)
		}
	})
}
