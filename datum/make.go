package datum

import (
	"math"

	"conduit/api"
)

// maker makes values of plain data. With boxes, one number is one pointer, as == and keys ask for it, and nothing is put into the box: what lies there may differ from place to place, and nobody looks. Without, each place has a box of its own.
type maker struct {
	boxes map[int64]*box
}

func newSharing() maker { return maker{boxes: map[int64]*box{}} }

func value(d api.Datum) any { return maker{}.value(d) }

func (m maker) value(d api.Datum) any {
	switch d.Kind {
	case api.KInt:
		return whole(d.Int)
	case api.KKey:
		return key(d.Int)
	case api.KFloat:
		return float(math.Float64frombits(d.Bits))
	case api.KText:
		return text(d.Text)
	case api.KName:
		return name(d.Text)
	case api.KBool:
		return truth(d.Int != 0)
	case api.KBytes:
		return octets(d.Text)
	case api.KList:
		return m.row(d.List)
	case api.KPair:
		return pair{m.place(d.List, 0), m.place(d.List, 1)}
	case api.KErr:
		return failure{d.Int, d.Text}
	case api.KPtr:
		return m.pointer(d)
	case api.KNoPtr:
		return (*box)(nil)
	case api.KUnit:
		return unit{}
	}
	return nil
}

func (m maker) row(l []api.Datum) row {
	r := make(row, len(l))
	for i, d := range l {
		r[i] = m.value(d)
	}
	return r
}

// place is nil where a list is too short: a pair or a pointer may be made of a kind alone.
func (m maker) place(l []api.Datum, i int) any {
	if i >= len(l) {
		return nil
	}
	return m.value(l[i])
}

func (m maker) pointer(d api.Datum) *box {
	if m.boxes == nil {
		return &box{number: d.Int, inside: m.place(d.List, 0)}
	}
	b := m.boxes[d.Int]
	if b == nil {
		b = &box{number: d.Int}
		m.boxes[d.Int] = b
	}
	return b
}

func plain(v any) api.Datum {
	switch v := v.(type) {
	case whole:
		return api.Datum{Kind: api.KInt, Int: int64(v)}
	case key:
		return api.Datum{Kind: api.KKey, Int: int64(v)}
	case float:
		return api.Datum{Kind: api.KFloat, Bits: math.Float64bits(float64(v))}
	case text:
		return api.Datum{Kind: api.KText, Text: string(v)}
	case name:
		return api.Datum{Kind: api.KName, Text: string(v)}
	case truth:
		return plainTruth(v)
	case octets:
		return api.Datum{Kind: api.KBytes, Text: string(v)}
	case row:
		return api.Datum{Kind: api.KList, List: plainAll(v)}
	case pair:
		return api.Datum{Kind: api.KPair, List: []api.Datum{plain(v.first), plain(v.second)}}
	case failure:
		return api.Datum{Kind: api.KErr, Int: v.code, Text: v.words}
	case *box:
		return plainPointer(v)
	case unit:
		return api.Datum{Kind: api.KUnit}
	}
	return api.Datum{}
}

func plainTruth(t truth) api.Datum {
	if t {
		return api.Datum{Kind: api.KBool, Int: 1}
	}
	return api.Datum{Kind: api.KBool}
}

func plainAll(r row) []api.Datum {
	l := make([]api.Datum, len(r))
	for i, v := range r {
		l[i] = plain(v)
	}
	return l
}

func plainPointer(b *box) api.Datum {
	if b == nil {
		return api.Datum{Kind: api.KNoPtr}
	}
	return api.Datum{Kind: api.KPtr, Int: b.number, List: []api.Datum{plain(b.inside)}}
}
