package datum

import (
	"math"
	"strconv"
)

const digits = "0123456789abcdef"

func appendValue(out []byte, v any) []byte {
	switch v := v.(type) {
	case whole:
		return strconv.AppendInt(out, int64(v), 10)
	case key:
		return strconv.AppendInt(append(out, '#'), int64(v), 10)
	case float:
		return appendBits(append(out, 'f'), math.Float64bits(float64(v)))
	case text:
		return appendQuoted(out, string(v))
	case name:
		return appendQuoted(append(out, '@'), string(v))
	case truth:
		return strconv.AppendBool(out, bool(v))
	case octets:
		return appendOctets(append(out, '%'), v)
	case row:
		return append(appendRow(append(out, '['), v), ']')
	case pair:
		return append(appendRow(append(out, '('), row{v.first, v.second}), ')')
	case failure:
		return appendQuoted(strconv.AppendInt(append(out, '!'), v.code, 10), v.words)
	case *box:
		return appendPointer(append(out, '&'), v)
	case unit:
		return append(out, "{}"...)
	}
	return append(out, "nil"...)
}

func appendBits(out []byte, bits uint64) []byte {
	for shift := 60; shift >= 0; shift -= 4 {
		out = append(out, digits[bits>>shift&15])
	}
	return out
}

func appendOctet(out []byte, c byte) []byte {
	return append(out, digits[c>>4], digits[c&15])
}

func appendOctets(out []byte, o octets) []byte {
	for _, c := range o {
		out = appendOctet(out, c)
	}
	return out
}

func appendQuoted(out []byte, s string) []byte {
	out = append(out, '"')
	for i := range len(s) {
		switch c := s[i]; {
		case c == '"' || c == '\\':
			out = append(out, '\\', c)
		case needsDigits(c):
			out = appendOctet(append(out, '\\', 'x'), c)
		default:
			out = append(out, c)
		}
	}
	return append(out, '"')
}

func needsDigits(c byte) bool { return c < 32 || c > 126 }

func appendRow(out []byte, r row) []byte {
	for i, v := range r {
		if i > 0 {
			out = append(out, ", "...)
		}
		out = appendValue(out, v)
	}
	return out
}

func appendPointer(out []byte, b *box) []byte {
	if b == nil {
		return append(out, "nil"...)
	}
	out = append(strconv.AppendInt(out, b.number, 10), '(')
	return append(appendValue(out, b.inside), ')')
}
