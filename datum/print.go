package datum

import (
	"math"
	"strconv"

	"conduit/value"
)

const digits = "0123456789abcdef"

func appendValue(out []byte, v any) []byte {
	switch v := v.(type) {
	case value.Whole:
		return strconv.AppendInt(out, int64(v), 10)
	case value.Key:
		return strconv.AppendInt(append(out, '#'), int64(v), 10)
	case value.Float:
		return appendBits(append(out, 'f'), math.Float64bits(float64(v)))
	case value.Text:
		return appendQuoted(out, string(v))
	case value.Name:
		return appendQuoted(append(out, '@'), string(v))
	case value.Truth:
		return strconv.AppendBool(out, bool(v))
	case value.Octets:
		return appendOctets(append(out, '%'), v)
	case value.Row:
		return append(appendRow(append(out, '['), v), ']')
	case value.Pair:
		return append(appendRow(append(out, '('), value.Row{v.First, v.Second}), ')')
	case value.Failure:
		return appendQuoted(strconv.AppendInt(append(out, '!'), v.Code, 10), v.Words)
	case *value.Box:
		return appendPointer(append(out, '&'), v)
	case value.Unit:
		return append(out, "{}"...)
	}
	return append(out, "nil"...)
}

func appendBits(out []byte, bits uint64) []byte {
	for shift := 60; shift >= 0; shift -= 4 {
		out = append(out, digits[bits>>shift&15])
	}
	return out
}

func appendOctet(out []byte, c byte) []byte {
	return append(out, digits[c>>4], digits[c&15])
}

func appendOctets(out []byte, o value.Octets) []byte {
	for _, c := range o {
		out = appendOctet(out, c)
	}
	return out
}

func appendQuoted(out []byte, s string) []byte {
	out = append(out, '"')
	for i := range len(s) {
		switch c := s[i]; {
		case c == '"' || c == '\\':
			out = append(out, '\\', c)
		case needsDigits(c):
			out = appendOctet(append(out, '\\', 'x'), c)
		default:
			out = append(out, c)
		}
	}
	return append(out, '"')
}

func needsDigits(c byte) bool { return c < 32 || c > 126 }

func appendRow(out []byte, r value.Row) []byte {
	for i, v := range r {
		if i > 0 {
			out = append(out, ", "...)
		}
		out = appendValue(out, v)
	}
	return out
}

func appendPointer(out []byte, b *value.Box) []byte {
	if b == nil {
		return append(out, "nil"...)
	}
	out = append(strconv.AppendInt(out, b.Number, 10), '(')
	return append(appendValue(out, b.Inside), ')')
}
