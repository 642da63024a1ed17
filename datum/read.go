package datum

import (
	"strconv"
	"strings"

	"conduit/api"
)

// reader goes through a text, of which it takes what Print writes and nothing else. A method that finds the text to be none is left at once, with false: so no text makes it nest or keep more than a valid value needs.
type reader struct {
	text  string
	at    int
	parts int
}

func (r *reader) value(deep int) (api.Datum, bool) {
	var d api.Datum
	var ok bool
	if deep > api.MaxDeep || r.parts == api.MaxItems {
		goto none
	}
	r.parts++
	if d, ok = r.word(); !ok {
		d, ok = r.marked(deep)
	}
	if ok {
		return d, true
	}
none:
	return api.Datum{}, false
}

// word comes ahead of marked: "false" begins like a float, "&nil" like a pointer.
func (r *reader) word() (api.Datum, bool) {
	switch {
	case r.skip("nil"):
		return api.Datum{Kind: api.KNil}, true
	case r.skip("true"):
		return api.Datum{Kind: api.KBool, Int: 1}, true
	case r.skip("false"):
		return api.Datum{Kind: api.KBool}, true
	case r.skip("&nil"):
		return api.Datum{Kind: api.KNoPtr}, true
	case r.skip("{}"):
		return api.Datum{Kind: api.KUnit}, true
	}
	return api.Datum{}, false
}

func (r *reader) marked(deep int) (d api.Datum, ok bool) {
	switch {
	case r.skip("#"):
		d.Kind = api.KKey
		d.Int, ok = r.whole()
	case r.skip("f"):
		d.Kind = api.KFloat
		d.Bits, ok = r.bits()
	case r.skip("\""):
		d.Kind = api.KText
		d.Text, ok = r.quoted()
	case r.skip("@\""):
		d.Kind = api.KName
		d.Text, ok = r.quoted()
	case r.skip("%"):
		d.Kind = api.KBytes
		d.Text, ok = r.octets()
	case r.skip("["):
		d.Kind = api.KList
		d.List, ok = r.row("]", deep+1)
	case r.skip("("):
		d.Kind = api.KPair
		d.List, ok = r.row(")", deep+1)
		ok = ok && len(d.List) == 2
	case r.skip("!"):
		return r.failure()
	case r.skip("&"):
		return r.pointer(deep)
	default:
		d.Kind = api.KInt
		d.Int, ok = r.whole()
	}
	return d, ok
}

func (r *reader) failure() (api.Datum, bool) {
	var words string
	code, ok := r.whole()
	if !ok || !r.skip("\"") {
		goto none
	}
	if words, ok = r.quoted(); ok {
		return api.Datum{Kind: api.KErr, Int: code, Text: words}, true
	}
none:
	return api.Datum{}, false
}

func (r *reader) pointer(deep int) (api.Datum, bool) {
	var inside []api.Datum
	number, ok := r.whole()
	if !ok || number < 1 || !r.skip("(") {
		goto none
	}
	if inside, ok = r.row(")", deep+1); ok && len(inside) == 1 {
		return api.Datum{Kind: api.KPtr, Int: number, List: inside}, true
	}
none:
	return api.Datum{}, false
}

func (r *reader) row(end string, deep int) ([]api.Datum, bool) {
	var l []api.Datum
	if r.skip(end) {
		return nil, true
	}
	for {
		d, ok := r.value(deep)
		if !ok {
			goto none
		}
		l = append(l, d)
		if r.skip(end) {
			return l, true
		}
		if !r.skip(", ") {
			goto none
		}
	}
none:
	return nil, false
}

func (r *reader) whole() (int64, bool) {
	from := r.at
	r.skip("-")
	for r.at < len(r.text) && '0' <= r.text[r.at] && r.text[r.at] <= '9' {
		r.at++
	}
	written := r.text[from:r.at]
	n, err := strconv.ParseInt(written, 10, 64)
	// ParseInt takes more forms of a number than the one that Print gives it.
	if err != nil || strconv.FormatInt(n, 10) != written {
		return 0, false
	}
	return n, true
}

func (r *reader) bits() (uint64, bool) {
	var bits uint64
	for range 16 {
		n, ok := r.digit()
		if !ok {
			goto none
		}
		bits = bits<<4 | uint64(n)
	}
	return bits, true
none:
	return 0, false
}

func (r *reader) octets() (string, bool) {
	var out []byte
	for r.beforeDigit() {
		c, ok := r.octet()
		if !ok || len(out) == api.MaxBytes {
			goto none
		}
		out = append(out, c)
	}
	return string(out), true
none:
	return "", false
}

func (r *reader) octet() (byte, bool) {
	high, ok := r.digit()
	if !ok {
		return 0, false
	}
	low, ok := r.digit()
	return high<<4 | low, ok
}

func (r *reader) digit() (byte, bool) {
	if !r.beforeDigit() {
		return 0, false
	}
	r.at++
	return byte(strings.IndexByte(digits, r.text[r.at-1])), true
}

func (r *reader) beforeDigit() bool {
	return r.at < len(r.text) && strings.IndexByte(digits, r.text[r.at]) >= 0
}

// quoted reads on behind the mark that a text begins with.
func (r *reader) quoted() (string, bool) {
	var out []byte
	for !r.skip("\"") {
		c, ok := r.letter()
		if !ok || len(out) == api.MaxBytes {
			goto none
		}
		out = append(out, c)
	}
	return string(out), true
none:
	return "", false
}

func (r *reader) letter() (byte, bool) {
	switch {
	case r.skip("\\\""):
		return '"', true
	case r.skip("\\\\"):
		return '\\', true
	case r.skip("\\x"):
		c, ok := r.octet()
		return c, ok && needsDigits(c)
	case r.at == len(r.text) || r.text[r.at] == '\\' || needsDigits(r.text[r.at]):
		return 0, false
	}
	r.at++
	return r.text[r.at-1], true
}

func (r *reader) skip(s string) bool {
	if !strings.HasPrefix(r.text[r.at:], s) {
		return false
	}
	r.at += len(s)
	return true
}
