package datum

import "conduit/api"

const (
	hasInt = 1 << iota
	hasBits
	hasText
	hasList
)

var fields = [api.NumKinds]uint8{
	api.KInt:   hasInt,
	api.KKey:   hasInt,
	api.KFloat: hasBits,
	api.KText:  hasText,
	api.KName:  hasText,
	api.KBool:  hasInt,
	api.KBytes: hasText,
	api.KList:  hasList,
	api.KPair:  hasList,
	api.KErr:   hasInt | hasText,
	api.KPtr:   hasInt | hasList,
}

// validWithin counts down, so that a list that stands in itself, or in very many places, is left as soon as it is too much.
func validWithin(d api.Datum, deep int, left *int) bool {
	if deep == 0 || *left == 0 || !wellFormed(d) {
		return false
	}
	*left--
	for _, p := range d.List {
		if !validWithin(p, deep-1, left) {
			return false
		}
	}
	return true
}

func wellFormed(d api.Datum) bool {
	if d.Kind < 0 || d.Kind >= api.NumKinds || strayField(d) {
		return false
	}
	switch d.Kind {
	case api.KBool:
		return d.Int == 0 || d.Int == 1
	case api.KPair:
		return len(d.List) == 2
	case api.KPtr:
		return d.Int >= 1 && len(d.List) == 1
	}
	return len(d.Text) <= api.MaxBytes
}

func strayField(d api.Datum) bool {
	has := fields[d.Kind]
	return d.Int != 0 && has&hasInt == 0 ||
		d.Bits != 0 && has&hasBits == 0 ||
		d.Text != "" && has&hasText == 0 ||
		len(d.List) != 0 && has&hasList == 0
}
