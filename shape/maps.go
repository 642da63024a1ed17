package shape

import (
	"conduit/api"
	"conduit/datum"
	"conduit/guard"
	"conduit/value"
	"conduit/want"
)

// mapping is a map: what comes of a body, with lists that it may share with it, and the kinds that may come of one of a kind.
type mapping struct {
	body  func(topic string, d api.Datum) api.Result
	kinds func(kind int) uint32
}

// mappingOf is the map of a number; a number that is none has the one of which nothing comes.
func mappingOf(op int) mapping {
	table := [api.NumMaps]mapping{
		0:             {nothing, noKind},
		api.MapDouble: {double, doubleKinds},
		api.MapList:   {list, listKinds},
		api.MapOpen:   {open, openKinds},
		api.MapSize:   {size, sizeKinds},
		api.MapName:   {name, nameKinds},
		api.MapNot:    {not, notKinds},
		api.MapPair:   {pair, pairKinds},
		api.MapKey:    {key, keyKinds},
	}
	if op < 0 || op >= len(table) {
		op = 0
	}
	return table[op]
}

// told is what came, or why nothing did.
func told(d api.Datum, fault api.Errno) api.Result {
	if fault != api.OK {
		return api.Result{Err: fault}
	}
	return api.Result{Has: true, Body: d}
}

// around is a value that was laid around another one, which may have been as great as values are.
func around(d api.Datum) api.Result {
	if !datum.Valid(d) {
		return told(d, api.ErrDatum)
	}
	return told(d, api.OK)
}

func nothing(string, api.Datum) api.Result { return told(api.Datum{}, api.ErrMethod) }

func double(_ string, d api.Datum) api.Result {
	if r := guard.Try(api.Act{Op: api.ActFace, A: d, N: api.FAdding}); r.Err != api.OK {
		return r
	}
	return told(datum.Add(d, d))
}

func list(_ string, d api.Datum) api.Result {
	return around(api.Datum{Kind: api.KList, List: []api.Datum{d}})
}

func open(_ string, d api.Datum) api.Result { return guard.Try(api.Act{Op: api.ActOpen, A: d}) }

func size(_ string, d api.Datum) api.Result { return guard.Try(api.Act{Op: api.ActSize, A: d}) }

func name(_ string, d api.Datum) api.Result {
	if v, ok := value.Of(d).(value.Named); ok {
		return told(value.Plain(value.Text(v.Name())), api.OK)
	}
	return told(d, api.ErrMethod)
}

func not(_ string, d api.Datum) api.Result {
	r := guard.Try(api.Act{Op: api.ActAssert, A: d, N: api.KBool})
	if r.Err == api.OK {
		r.Body.Int = 1 - r.Body.Int
	}
	return r
}

func pair(topic string, d api.Datum) api.Result {
	return around(api.Datum{Kind: api.KPair, List: []api.Datum{{Kind: api.KText, Text: topic}, d}})
}

// key takes another kind for what lies in the same field.
func key(_ string, d api.Datum) api.Result {
	d.Kind = keyKind(d.Kind)
	return told(d, api.OK)
}

func keyKind(kind int) int {
	switch kind {
	case api.KInt:
		return api.KKey
	case api.KText:
		return api.KName
	}
	return kind
}

const anyKind uint32 = 1<<api.NumKinds - 1

// when is the one kind that comes, where something does.
func when(comes bool, kind int) uint32 {
	if !comes {
		return 0
	}
	return 1 << kind
}

func noKind(int) uint32 { return 0 }

func doubleKinds(kind int) uint32 { return when(want.Implements(kind, api.FAdding), kind) }

func listKinds(int) uint32 { return when(true, api.KList) }

// openKinds has nothing of a nil pointer, which has the method, but panics.
func openKinds(kind int) uint32 {
	if kind == api.KPtr {
		return anyKind
	}
	return 0
}

func sizeKinds(kind int) uint32 { return when(want.Implements(kind, api.FSized), api.KInt) }

func nameKinds(kind int) uint32 { return when(want.Implements(kind, api.FNamed), api.KText) }

func notKinds(kind int) uint32 { return when(kind == api.KBool, api.KBool) }

func pairKinds(int) uint32 { return when(true, api.KPair) }

func keyKinds(kind int) uint32 { return when(true, keyKind(kind)) }
