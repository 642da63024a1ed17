package value

import (
	"math"

	"conduit/api"
)

// Maker makes values of plain data. With boxes, one number is one pointer, as == and keys ask for it, and nothing is put into the box: what lies there may differ from place to place, and nobody looks. Without, each place has a box of its own.
type Maker struct {
	boxes map[int64]*Box
}

// NewSharing is a maker of values that are compared.
func NewSharing() Maker { return Maker{boxes: map[int64]*Box{}} }

// Of is the value that stands for d.
func Of(d api.Datum) any { return Maker{}.Of(d) }

// Of is the value that stands for d; of a kind that is none it is nil.
func (m Maker) Of(d api.Datum) any {
	switch d.Kind {
	case api.KInt:
		return Whole(d.Int)
	case api.KKey:
		return Key(d.Int)
	case api.KFloat:
		return Float(math.Float64frombits(d.Bits))
	case api.KText:
		return Text(d.Text)
	case api.KName:
		return Name(d.Text)
	case api.KBool:
		return Truth(d.Int != 0)
	case api.KBytes:
		return Octets(d.Text)
	case api.KList:
		return m.row(d.List)
	case api.KPair:
		return Pair{m.place(d.List, 0), m.place(d.List, 1)}
	case api.KErr:
		return Failure{d.Int, d.Text}
	case api.KPtr:
		return m.pointer(d)
	case api.KNoPtr:
		return (*Box)(nil)
	case api.KUnit:
		return Unit{}
	}
	return nil
}

// OfKind is some value of a kind, for who asks its type alone.
func OfKind(kind int) any { return Of(api.Datum{Kind: kind}) }

func (m Maker) row(l []api.Datum) Row {
	r := make(Row, len(l))
	for i, d := range l {
		r[i] = m.Of(d)
	}
	return r
}

// place is nil where a list is too short: a pair or a pointer may be made of a kind alone.
func (m Maker) place(l []api.Datum, i int) any {
	if i >= len(l) {
		return nil
	}
	return m.Of(l[i])
}

func (m Maker) pointer(d api.Datum) *Box {
	if m.boxes == nil {
		return &Box{Number: d.Int, Inside: m.place(d.List, 0)}
	}
	b := m.boxes[d.Int]
	if b == nil {
		b = &Box{Number: d.Int}
		m.boxes[d.Int] = b
	}
	return b
}

// Plain is the data that a value stands for, in new memory.
func Plain(v any) api.Datum {
	switch v := v.(type) {
	case Whole:
		return api.Datum{Kind: api.KInt, Int: int64(v)}
	case Key:
		return api.Datum{Kind: api.KKey, Int: int64(v)}
	case Float:
		return api.Datum{Kind: api.KFloat, Bits: math.Float64bits(float64(v))}
	case Text:
		return api.Datum{Kind: api.KText, Text: string(v)}
	case Name:
		return api.Datum{Kind: api.KName, Text: string(v)}
	case Truth:
		return plainTruth(v)
	case Octets:
		return api.Datum{Kind: api.KBytes, Text: string(v)}
	case Row:
		return api.Datum{Kind: api.KList, List: plainAll(v)}
	case Pair:
		return api.Datum{Kind: api.KPair, List: []api.Datum{Plain(v.First), Plain(v.Second)}}
	case Failure:
		return api.Datum{Kind: api.KErr, Int: v.Code, Text: v.Words}
	case *Box:
		return plainPointer(v)
	case Unit:
		return api.Datum{Kind: api.KUnit}
	}
	return api.Datum{}
}

func plainTruth(t Truth) api.Datum {
	if t {
		return api.Datum{Kind: api.KBool, Int: 1}
	}
	return api.Datum{Kind: api.KBool}
}

func plainAll(r Row) []api.Datum {
	l := make([]api.Datum, len(r))
	for i, v := range r {
		l[i] = Plain(v)
	}
	return l
}

func plainPointer(b *Box) api.Datum {
	if b == nil {
		return api.Datum{Kind: api.KNoPtr}
	}
	return api.Datum{Kind: api.KPtr, Int: b.Number, List: []api.Datum{Plain(b.Inside)}}
}
