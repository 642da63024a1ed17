package wire

import (
	"math"

	"conduit/api"
	"conduit/fits"
	"conduit/packed"
)

// readFrame reads a frame's body, as bytes, and its sum.
func readFrame(c *packed.Cursor) ([]byte, uint16) {
	c.Mark(firstByte)
	c.Mark(secondByte)
	body := c.Bytes(int(c.Number(mostBody)))
	upper := c.Byte()
	return body, uint16(upper)<<8 | uint16(c.Byte())
}

// readBody reads the message that a frame's body is.
func readBody(b []byte) (api.Msg, bool) {
	r := newReader(b)
	m := r.message()
	ok := r.Fault() == api.OK && r.Left() == 0
	return m, ok && fits.Msg(m) && m.Id >= 0 && m.Corr >= 0
}

// reader reads one value, and what stands ahead of it.
type reader struct {
	packed.Cursor
	forms [api.NumKinds]form
	deep  int // how deep what is read lies
	left  int // how many parts are neither read nor promised yet
}

// form is how what a kind has is read, behind the kind's byte.
type form struct {
	read func(r *reader, d *api.Datum)
}

func newReader(b []byte) reader {
	return reader{Cursor: packed.At(b), forms: forms(), deep: 1, left: api.MaxItems - 1}
}

func forms() [api.NumKinds]form {
	nothing := form{func(*reader, *api.Datum) {}}
	whole, text := form{(*reader).whole}, form{(*reader).text}
	return [api.NumKinds]form{
		api.KNil:   nothing,
		api.KInt:   whole,
		api.KKey:   whole,
		api.KFloat: {(*reader).float},
		api.KText:  text,
		api.KName:  text,
		api.KBool:  {(*reader).truth},
		api.KBytes: text,
		api.KList:  {(*reader).list},
		api.KPair:  {(*reader).pair},
		api.KErr:   {(*reader).failing},
		api.KPtr:   {(*reader).pointer},
		api.KNoPtr: nothing,
		api.KUnit:  nothing,
	}
}

func (r *reader) message() api.Msg {
	var m api.Msg
	for _, n := range [...]*int64{&m.Id, &m.At, &m.Until, &m.Corr} {
		*n = r.Signed()
	}
	m.Prio, m.Hops = int(r.Signed()), int(r.Signed())
	m.Topic, m.Reply = r.Text(api.MaxBytes), r.Text(api.MaxBytes)
	m.Body = r.value()
	return m
}

func (r *reader) value() api.Datum {
	kind := r.Byte()
	if kind >= api.NumKinds {
		r.Fail(api.ErrForm)
		return api.Datum{}
	}
	d := api.Datum{Kind: int(kind)}
	r.forms[kind].read(r, &d)
	return d
}

func (r *reader) whole(d *api.Datum) { d.Int = r.Signed() }

func (r *reader) float(d *api.Datum) { d.Bits = r.Fixed(floatBytes) }

func (r *reader) text(d *api.Datum) { d.Text = r.Text(api.MaxBytes) }

func (r *reader) truth(d *api.Datum) {
	b := r.Byte()
	if b > 1 {
		r.Fail(api.ErrForm)
	}
	d.Int = int64(b)
}

func (r *reader) list(d *api.Datum) {
	n := int(r.Number(uint64(r.room())))
	r.promise(n)
	d.List = r.parts(n)
}

func (r *reader) pair(d *api.Datum) {
	r.promise(2)
	d.List = r.parts(2)
}

func (r *reader) failing(d *api.Datum) {
	r.whole(d)
	r.text(d)
}

func (r *reader) pointer(d *api.Datum) {
	r.promise(1)
	d.Int = int64(r.Number(math.MaxInt64))
	if d.Int == 0 {
		r.Fail(api.ErrForm)
	}
	d.List = r.parts(1)
}

// room is how many parts what is read may have.
func (r *reader) room() int {
	if r.deep == api.MaxDeep {
		return 0
	}
	return r.left
}

// promise takes parts into account that must come, ahead of what stands before them: a value for which there is no room is none from the first byte on that asks for it.
func (r *reader) promise(n int) {
	if n > r.room() {
		r.Fail(api.ErrForm)
		return
	}
	r.left -= n
}

func (r *reader) parts(n int) []api.Datum {
	var l []api.Datum
	r.deep++
	for range n {
		l = append(l, r.value())
	}
	r.deep--
	return l
}
