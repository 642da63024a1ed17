// Package datum is layer 1: see shared/doc/01-datum.md.
package datum

import (
	"conduit/api"
	"conduit/value"
)

// Valid tells whether a value is one.
func Valid(d api.Datum) bool {
	left := api.MaxItems
	return validWithin(d, api.MaxDeep, &left)
}

// Parts is how many parts a value has, itself among them, and how deep it is.
func Parts(d api.Datum) (int, int) {
	parts, deep := 1, 0
	for _, p := range d.List {
		n, below := Parts(p)
		parts += n
		deep = max(deep, below)
	}
	return parts, deep + 1
}

// Same tells whether two values are the same, bit by bit.
func Same(a, b api.Datum) bool {
	if a.Kind != b.Kind || a.Int != b.Int || a.Bits != b.Bits || a.Text != b.Text || len(a.List) != len(b.List) {
		return false
	}
	for i := range a.List {
		if !Same(a.List[i], b.List[i]) {
			return false
		}
	}
	return true
}

// Equal is a == b of two interface values.
func Equal(a, b api.Datum) (is bool, fault api.Errno) {
	m := value.NewSharing()
	x, y := m.Of(a), m.Of(b)
	defer func() {
		if recover() != nil {
			is, fault = false, api.ErrCompare
		}
	}()
	return x == y, api.OK
}

// Group numbers values as a map does that has them for keys.
func Group(l []api.Datum) (places []int, fault api.Errno) {
	m := value.NewSharing()
	firsts := map[any]int{}
	defer func() {
		if recover() != nil {
			places, fault = nil, api.ErrHash
		}
	}()
	for i, d := range l {
		v := m.Of(d)
		first, known := firsts[v]
		if !known {
			first = i
			firsts[v] = i
		}
		places = append(places, first)
	}
	return places, api.OK
}

// Has tells whether a kind has a method.
func Has(kind, method int) bool {
	return answers(value.OfKind(kind), method)
}

// Length is what Size answers.
func Length(d api.Datum) (int, api.Errno) {
	if v, ok := value.Of(d).(value.Sized); ok {
		return v.Size(), api.OK
	}
	return 0, api.ErrMethod
}

// Label is what Name answers.
func Label(d api.Datum) (string, api.Errno) {
	if v, ok := value.Of(d).(value.Named); ok {
		return v.Name(), api.OK
	}
	return "", api.ErrMethod
}

// Words is what Error answers.
func Words(d api.Datum) (words string, fault api.Errno) {
	defer func() {
		if recover() != nil {
			words, fault = "", api.ErrNilCall
		}
	}()
	if v, ok := value.Of(d).(value.Failing); ok {
		return v.Error(), api.OK
	}
	return "", api.ErrMethod
}

// Open is what Open answers.
func Open(d api.Datum) (inside api.Datum, fault api.Errno) {
	defer func() {
		if recover() != nil {
			inside, fault = api.Datum{}, api.ErrNilCall
		}
	}()
	if v, ok := value.Of(d).(value.Opening); ok {
		return value.Plain(v.Open()), api.OK
	}
	return api.Datum{}, api.ErrMethod
}

// Less is what Less answers.
func Less(a, b api.Datum) (bool, api.Errno) {
	if v, ok := value.Of(a).(value.Ordered); ok {
		return v.Less(value.Of(b))
	}
	return false, api.ErrMethod
}

// Add is what Add answers.
func Add(a, b api.Datum) (api.Datum, api.Errno) {
	if v, ok := value.Of(a).(value.Adding); ok {
		sum, fault := v.Add(value.Of(b))
		return value.Plain(sum), fault
	}
	return api.Datum{}, api.ErrMethod
}

// Print writes a value.
func Print(d api.Datum) string {
	return string(appendValue(nil, value.Of(d)))
}

// Parse reads one.
func Parse(s string) (api.Datum, api.Errno) {
	r := reader{text: s}
	d, ok := r.value(1)
	if !ok || r.at < len(s) {
		return api.Datum{}, api.ErrDatum
	}
	return d, api.OK
}
