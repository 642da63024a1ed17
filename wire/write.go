package wire

import (
	"conduit/api"
	"conduit/packed"
)

// texts is how many bytes the texts of a value have together.
func texts(d api.Datum) int {
	n := len(d.Text)
	for _, p := range d.List {
		n += texts(p)
	}
	return n
}

func appendBody(b []byte, m api.Msg) []byte {
	for _, n := range [...]int64{m.Id, m.At, m.Until, m.Corr, int64(m.Prio), int64(m.Hops)} {
		b = packed.AppendSigned(b, n)
	}
	b = packed.AppendText(b, m.Topic)
	b = packed.AppendText(b, m.Reply)
	return appendValue(b, m.Body)
}

func appendValue(b []byte, d api.Datum) []byte {
	b = append(b, byte(d.Kind))
	switch d.Kind {
	case api.KInt, api.KKey:
		b = packed.AppendSigned(b, d.Int)
	case api.KFloat:
		b = packed.AppendFixed(b, d.Bits, floatBytes)
	case api.KText, api.KName, api.KBytes:
		b = packed.AppendText(b, d.Text)
	case api.KBool:
		b = append(b, byte(d.Int))
	case api.KList:
		b = packed.AppendNumber(b, uint64(len(d.List)))
	case api.KErr:
		b = packed.AppendText(packed.AppendSigned(b, d.Int), d.Text)
	case api.KPtr:
		b = packed.AppendNumber(b, uint64(d.Int))
	}
	for _, p := range d.List {
		b = appendValue(b, p)
	}
	return b
}

func appendSum(b []byte, sum uint16) []byte {
	return append(b, byte(sum>>8), byte(sum))
}
