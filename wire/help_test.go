package wire

import (
	"bytes"
	"encoding/binary"
	"math"
	"math/big"
	"math/rand/v2"
	"slices"
	"strings"
	"testing"

	"conduit/api"
	"conduit/datum"
	"conduit/topic"
)

func newRandom(seed uint64) *rand.Rand { return rand.New(rand.NewPCG(seed, 26)) }

func pick[T any](r *rand.Rand, l ...T) T { return l[r.IntN(len(l))] }

func read(t testing.TB, s string) api.Datum {
	t.Helper()
	d, e := datum.Parse(s)
	if e != api.OK {
		t.Fatalf("Parse(%s): %v", s, e)
	}
	return d
}

func list(l ...api.Datum) api.Datum { return api.Datum{Kind: api.KList, List: l} }

func text(s string) api.Datum { return api.Datum{Kind: api.KText, Text: s} }

// nested is d in a list in a list and so on: so many lists.
func nested(deep int, d api.Datum) api.Datum {
	for range deep {
		d = list(d)
	}
	return d
}

// many is a list of so many values without parts.
func many(n int) api.Datum { return list(make([]api.Datum, n)...) }

func plain(id int64) api.Msg { return api.Msg{Id: id, Topic: "t"} }

func sameMsg(x, y api.Msg) bool {
	bodies := datum.Same(x.Body, y.Body)
	x.Body, y.Body = api.Datum{}, api.Datum{}
	numbers := [...]int64{x.Id - y.Id, x.At - y.At, x.Until - y.Until, x.Corr - y.Corr, int64(x.Prio - y.Prio), int64(x.Hops - y.Hops)}
	return bodies && numbers == [6]int64{} && x.Topic == y.Topic && x.Reply == y.Reply
}

func sameMsgs(x, y []api.Msg) bool { return slices.EqualFunc(x, y, sameMsg) }

func copied(d api.Datum) api.Datum {
	d.List = slices.Clone(d.List)
	for i := range d.List {
		d.List[i] = copied(d.List[i])
	}
	return d
}

// chapterNumber writes the digits of a number to the base 128.
func chapterNumber(n *big.Int) (b []byte) {
	rest, digit := new(big.Int).Set(n), new(big.Int)
	for len(b) == 0 || rest.Sign() != 0 {
		rest.DivMod(rest, big.NewInt(128), digit)
		b = append(b, byte(digit.Int64()+128))
	}
	b[len(b)-1] -= 128
	return b
}

func chapterCount(n int) []byte { return chapterNumber(big.NewInt(int64(n))) }

// chapterSigned writes 2x, or, of an x below 0, -2x - 1.
func chapterSigned(x int64) []byte {
	n := new(big.Int).Mul(big.NewInt(x), big.NewInt(2))
	if x < 0 {
		n.Neg(n).Sub(n, big.NewInt(1))
	}
	return chapterNumber(n)
}

func chapterText(s string) []byte { return append(chapterCount(len(s)), s...) }

// chapterDatum writes a value, kind by kind.
func chapterDatum(d api.Datum) []byte {
	b := []byte{byte(d.Kind)}
	switch d.Kind {
	case api.KInt, api.KKey:
		return append(b, chapterSigned(d.Int)...)
	case api.KFloat:
		return binary.LittleEndian.AppendUint64(b, d.Bits)
	case api.KText, api.KName, api.KBytes:
		return append(b, chapterText(d.Text)...)
	case api.KBool:
		return append(b, byte(d.Int))
	case api.KErr:
		return slices.Concat(b, chapterSigned(d.Int), chapterText(d.Text))
	case api.KList:
		b = append(b, chapterCount(len(d.List))...)
	case api.KPtr:
		b = append(b, chapterNumber(big.NewInt(d.Int))...)
	}
	for _, p := range d.List {
		b = append(b, chapterDatum(p)...)
	}
	return b
}

// chapterSum goes through the bits one by one: what is left when what stands there, begun with all ones, is divided by the polynomial.
func chapterSum(b []byte) uint16 {
	const polynomial = 1<<16 | 1<<12 | 1<<5 | 1
	left := uint32(0xffff)
	for _, x := range b {
		for bit := 7; bit >= 0; bit-- {
			left ^= uint32(x>>bit&1) << 15
			if left <<= 1; left >= 1<<16 {
				left ^= polynomial
			}
		}
	}
	return uint16(left)
}

func chapterBody(m api.Msg) []byte {
	return slices.Concat(chapterSigned(m.Id), chapterSigned(m.At), chapterSigned(m.Until), chapterSigned(m.Corr), chapterSigned(int64(m.Prio)), chapterSigned(int64(m.Hops)), chapterText(m.Topic), chapterText(m.Reply), chapterDatum(m.Body))
}

// frameOf is a body, whatever it is, in a frame.
func frameOf(body []byte) []byte {
	return binary.BigEndian.AppendUint16(slices.Concat([]byte{167, 1}, chapterCount(len(body)), body), chapterSum(body))
}

// chapterEncode is P26.2.
func chapterEncode(m api.Msg) []byte {
	if body := chapterBody(m); len(body) <= 1<<24 {
		return frameOf(body)
	}
	return nil
}

// source gives bytes, and behind their end those that make the least of what was begun: so what is begun is the beginning of something valid just if what comes out is.
type source struct {
	b     []byte
	at    int
	ended bool
	wrong bool
}

func (s *source) next(least byte) byte {
	if s.at == len(s.b) {
		s.ended = true
		return least
	}
	s.at++
	return s.b[s.at-1]
}

// number reads one of whatever size, of which the least is 0 or 1, and says that it is wrong if there are zeros that it does not take.
func (s *source) number(least byte) *big.Int {
	n := new(big.Int)
	for shift := uint(0); shift < 7*20; shift += 7 {
		b := s.next(least)
		n.Or(n, new(big.Int).Lsh(big.NewInt(int64(b%128)), shift))
		if b < 128 {
			s.wrong = s.wrong || b == 0 && shift > 0
			return n
		}
		least = 1
	}
	s.wrong = true
	return n
}

// upTo is a number as an int; one that is greater is wrong.
func (s *source) upTo(least byte, most int64) int64 {
	n := s.number(least)
	if n.Cmp(big.NewInt(most)) > 0 {
		s.wrong = true
		return 0
	}
	return n.Int64()
}

func (s *source) signed() int64 {
	n, odd := new(big.Int).DivMod(s.number(0), big.NewInt(2), new(big.Int))
	if odd.Sign() != 0 {
		n.Not(n)
	}
	if !n.IsInt64() {
		s.wrong = true
		return 0
	}
	return n.Int64()
}

func (s *source) text() string {
	n := int(s.upTo(0, math.MaxInt64))
	if n > len(s.b)+api.MaxBytes {
		s.wrong = true
		return ""
	}
	var b strings.Builder
	for range n {
		b.WriteByte(s.next('x'))
	}
	return b.String()
}

func (s *source) datum() (d api.Datum) {
	d.Kind = int(s.next(0))
	parts := 0
	switch d.Kind {
	case api.KInt, api.KKey:
		d.Int = s.signed()
	case api.KFloat:
		for i := range 8 {
			d.Bits += uint64(s.next(0)) << (8 * i)
		}
	case api.KText, api.KName, api.KBytes:
		d.Text = s.text()
	case api.KBool:
		d.Int = int64(s.next(0))
	case api.KList:
		parts = int(s.upTo(0, api.MaxItems))
	case api.KPair:
		parts = 2
	case api.KErr:
		d.Int = s.signed()
		d.Text = s.text()
	case api.KPtr:
		d.Int = s.upTo(1, math.MaxInt64)
		parts = 1
	}
	for range parts {
		if s.wrong {
			break
		}
		d.List = append(d.List, s.datum())
	}
	return d
}

// chapterRead is P26.1's ReadDatum: what b begins with is made whole and asked whether it is valid.
func chapterRead(b []byte) (api.Datum, int, api.Errno) {
	s := source{b: b}
	d := s.datum()
	switch {
	case s.wrong || !datum.Valid(d):
		return api.Datum{}, 0, api.ErrForm
	case s.ended:
		return api.Datum{}, 0, api.ErrFrame
	}
	return d, s.at, api.OK
}

func isTick(n int64) bool { return n >= 0 && n <= api.MaxTick }

// fitMsg is DOC.md's word, and what the chapter asks for beside it.
func fitMsg(m api.Msg) bool {
	topics := topic.Name(m.Topic) && (m.Reply == "" || topic.Name(m.Reply))
	return datum.Valid(m.Body) && topics && isTick(m.At) && isTick(m.Until) && m.Hops >= 0 && m.Hops <= api.MaxHops && m.Id >= 0 && m.Corr >= 0
}

func chapterMsg(body []byte) (m api.Msg, ok bool) {
	s := source{b: body}
	m.Id = s.signed()
	m.At = s.signed()
	m.Until = s.signed()
	m.Corr = s.signed()
	m.Prio = int(s.signed())
	m.Hops = int(s.signed())
	m.Topic = s.text()
	m.Reply = s.text()
	if !s.wrong {
		m.Body = s.datum()
	}
	return m, !s.wrong && !s.ended && s.at == len(body) && fitMsg(m)
}

// chapterDecode is P26.3.
func chapterDecode(b []byte) (api.Msg, int, api.Errno) {
	s := source{b: b}
	if s.next(167) != 167 || s.next(1) != 1 {
		return api.Msg{}, 0, api.ErrForm
	}
	long := int(s.upTo(0, 1<<24))
	switch {
	case s.wrong:
		return api.Msg{}, 0, api.ErrForm
	case s.ended || len(b) < s.at+long+2:
		return api.Msg{}, 0, api.ErrFrame
	}
	body, end := b[s.at:s.at+long], s.at+long+2
	if binary.BigEndian.Uint16(b[end-2:end]) != chapterSum(body) {
		return api.Msg{}, 0, api.ErrSum
	}
	m, ok := chapterMsg(body)
	if !ok {
		return api.Msg{}, 0, api.ErrForm
	}
	return m, end, api.OK
}

// chapterAll is P26.4.
func chapterAll(b []byte) (l []api.Msg, at int, e api.Errno) {
	for len(b) > at && e == api.OK {
		m, n, next := chapterDecode(b[at:])
		if e = next; e == api.OK {
			l, at = append(l, m), at+n
		}
	}
	return l, at, e
}

func short(b []byte) []byte { return b[:min(len(b), 60)] }

// readAsSaid holds what ReadDatum answers against P26.1.
func readAsSaid(t testing.TB, b []byte) (api.Datum, int, api.Errno) {
	t.Helper()
	d, n, e := ReadDatum(b)
	want, wantN, wantE := chapterRead(b)
	if !datum.Same(d, want) || n != wantN || e != wantE {
		t.Fatalf("ReadDatum of %d bytes, % x: %d, %v, not %d, %v", len(b), short(b), n, e, wantN, wantE)
	}
	return d, n, e
}

// decodeAsSaid holds what Decode answers against P26.3.
func decodeAsSaid(t testing.TB, b []byte) (api.Msg, int, api.Errno) {
	t.Helper()
	m, n, e := Decode(b)
	want, wantN, wantE := chapterDecode(b)
	if !sameMsg(m, want) || n != wantN || e != wantE {
		t.Fatalf("Decode of %d bytes, % x: %v, %d, %v, not %v, %d, %v", len(b), short(b), m, n, e, want, wantN, wantE)
	}
	return m, n, e
}

// allAsSaid holds what All answers against P26.4.
func allAsSaid(t testing.TB, b []byte) ([]api.Msg, int, api.Errno) {
	t.Helper()
	l, n, e := All(b)
	want, wantN, wantE := chapterAll(b)
	if !sameMsgs(l, want) || n != wantN || e != wantE {
		t.Fatalf("All of %d bytes, % x: %d, %d, %v, not %d, %d, %v", len(b), short(b), len(l), n, e, len(want), wantN, wantE)
	}
	return l, n, e
}

// encodeAsSaid holds what Encode answers against P26.2.
func encodeAsSaid(t testing.TB, m api.Msg) []byte {
	t.Helper()
	got := Encode(m)
	if want := chapterEncode(m); !bytes.Equal(got, want) {
		t.Fatalf("Encode(%v): % x, not % x", m, short(got), short(want))
	}
	return got
}

func randomInt(r *rand.Rand) int64 {
	near := int64(1)<<r.IntN(63) + r.Int64N(3) - 1
	return pick(r, 0, r.Int64N(200)-100, near, -near, math.MaxInt64, math.MinInt64, int64(r.Uint64()))
}

func randomText(r *rand.Rand) string {
	return pick(r, "", "a", "\x00\xff", strings.Repeat("x", r.IntN(300)), strings.Repeat("y", pick(r, 127, 128, 16383, 16384)))
}

func randomValue(r *rand.Rand, deep int) api.Datum {
	kind := r.IntN(api.NumKinds)
	d := api.Datum{Kind: kind}
	parts := 0
	switch kind {
	case api.KInt, api.KKey:
		d.Int = randomInt(r)
	case api.KFloat:
		d.Bits = r.Uint64()
	case api.KText, api.KName, api.KBytes:
		d.Text = randomText(r)
	case api.KBool:
		d.Int = r.Int64N(2)
	case api.KErr:
		d.Int, d.Text = randomInt(r), randomText(r)
	case api.KList:
		parts = r.IntN(4)
	case api.KPair:
		parts = 2
	case api.KPtr:
		d.Int, parts = pick(r, 1, 127, 128, 1+r.Int64N(1<<40), math.MaxInt64), 1
	}
	if deep == 1 && parts > 0 {
		return api.Datum{Kind: api.KUnit}
	}
	for range parts {
		d.List = append(d.List, randomValue(r, deep-1))
	}
	return d
}

func randomTick(r *rand.Rand) int64 {
	return pick(r, 0, r.Int64N(99), api.MaxTick, r.Int64N(api.MaxTick+1))
}

// randomTopic is seldom a long one, which takes its time.
func randomTopic(r *rand.Rand) string {
	if r.IntN(100) == 0 {
		return strings.Repeat("t", api.MaxBytes)
	}
	return pick(r, "t", "a/b", "$s", "/", "t/"+strings.Repeat("t", pick(r, 125, 126)))
}

// randomMsg is fit, with something in each field.
func randomMsg(r *rand.Rand) api.Msg {
	return api.Msg{
		Id: randomInt(r) & math.MaxInt64, Topic: randomTopic(r), Body: randomValue(r, 5), At: randomTick(r), Until: randomTick(r),
		Reply: pick(r, "", "", "r/s", randomTopic(r)), Corr: randomInt(r) & math.MaxInt64, Prio: int(randomInt(r)), Hops: r.IntN(api.MaxHops + 1),
	}
}

// turned is bytes of which a few are others, or are gone, or have others between.
func turned(r *rand.Rand, b []byte) []byte {
	b = bytes.Clone(b)
	for range 1 + r.IntN(2) {
		at := r.IntN(len(b) + 1)
		x := pick(r, 0, 1, 2, 127, 128, 255, byte(r.IntN(api.NumKinds+2)), byte(r.Uint32()))
		switch {
		case r.IntN(4) == 0:
			b = slices.Insert(b, at, x)
		case at == len(b):
			b = b[:r.IntN(len(b)+1)]
		case r.IntN(4) == 0:
			b = slices.Delete(b, at, at+1)
		default:
			b[at] = x
		}
	}
	return b
}
