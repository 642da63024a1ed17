package guard

import (
	"conduit/api"
	"conduit/panics"
	"conduit/value"
)

// done is what comes of an act, unless it panics.
func done(a api.Act) api.Result {
	switch a.Op {
	case api.ActGive:
		return gave(value.Copy(a.A))
	case api.ActAssert:
		return gave(panics.Must(a.A, int(a.N)))
	case api.ActFace:
		panics.Face(a.A, int(a.N))
		return gave(value.Copy(a.A))
	case api.ActIndex:
		return gave(panics.Place(a.A, a.N))
	case api.ActOpen:
		return gave(panics.Open(a.A))
	case api.ActCompare:
		return gave(compared(a.A, a.B))
	case api.ActDivide:
		return gave(divided(a.A, a.B))
	case api.ActOwn:
		panic(panics.Own(a.N))
	case api.ActError:
		panic(value.Failure{Code: a.N})
	case api.ActSize:
		return size(a.A)
	}
	return api.Result{Err: api.ErrMethod}
}

func gave(d api.Datum) api.Result { return api.Result{Has: true, Body: d} }

func compared(a, b api.Datum) api.Datum {
	m := value.NewSharing()
	x, y := m.Of(a), m.Of(b)
	is := panics.As(panics.Comparison{}, func() bool { return x == y })
	return value.Plain(value.Truth(is))
}

func divided(a, b api.Datum) api.Datum {
	x := panics.Must(a, api.KInt).Int
	y := panics.Must(b, api.KInt).Int
	quotient := panics.As(panics.Division{}, func() int64 { return x / y })
	return value.Plain(value.Whole(quotient))
}

func size(d api.Datum) api.Result {
	if v, ok := value.Of(d).(value.Sized); ok {
		return gave(value.Plain(value.Whole(v.Size())))
	}
	return api.Result{Err: api.ErrMethod}
}
