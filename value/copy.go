package value

import "conduit/api"

// Copy is d in memory of its own.
func Copy(d api.Datum) api.Datum {
	d.List = CopyAll(d.List)
	return d
}

// CopyAll is these values in memory of their own; of none it is nil.
func CopyAll(l []api.Datum) []api.Datum {
	if len(l) == 0 {
		return nil
	}
	out := make([]api.Datum, len(l))
	for i, d := range l {
		out[i] = Copy(d)
	}
	return out
}
