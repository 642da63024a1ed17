package check

import (
	"math"

	"conduit/api"
)

// million is the greatest number of many rows.
const million = 1000000

// span is the numbers from least to most.
type span struct{ least, most int64 }

// What a row may want to stand beside its word.
type (
	one          struct{ a span }
	two          struct{ a, b span }
	shape        struct{} // behind ":"
	capabilities struct{} // one at least
	pattern      struct{}
)

// row is a word and its meaning.
type row struct {
	word   string
	op     int
	wants  any   // one of the types above; nil: nothing
	unsaid int64 // a core's number, if there is none
	keeps  bool  // it may save and load
}

// ranges are those of a row's numbers, in their order.
func (r row) ranges() []span {
	switch w := r.wants.(type) {
	case one:
		return []span{w.a}
	case two:
		return []span{w.a, w.b}
	}
	return nil
}

// table finds the meaning of a word, and the word of a meaning.
type table struct {
	byWord map[string]row
	byOp   map[int]row
}

func newTable(rows ...row) table {
	t := table{map[string]row{}, map[int]row{}}
	for _, r := range rows {
		t.byWord[r.word] = r
		t.byOp[r.op] = r
	}
	return t
}

// meaning is the row of a word that stands at pos.
func (t table) meaning(word string, pos int) row {
	r, known := t.byWord[word]
	refuse(!known, pos, api.ErrUnknown)
	return r
}

// words are all that have a meaning, but those of capabilities.
type words struct{ cores, wraps, shapes, drops table }

func newWords() words {
	return words{newCores(), newWraps(), newShapes(), newDrops()}
}

func newCores() table {
	whole := span{math.MinInt64, math.MaxInt64}
	return newTable(
		row{word: "echo", op: api.CoEcho},
		row{word: "count", op: api.CoCount, keeps: true},
		row{word: "store", op: api.CoStore, wants: one{span{0, million}}, keeps: true},
		row{word: "sum", op: api.CoSum, keeps: true},
		row{word: "size", op: api.CoSize},
		row{word: "unbox", op: api.CoOpen},
		row{word: "fail", op: api.CoFail, wants: one{whole}, unsaid: 1},
		row{word: "panic", op: api.CoPanic, wants: one{whole}, unsaid: 1},
		row{word: "nth", op: api.CoNth, wants: one{whole}},
		row{word: "none", op: api.CoNone},
		row{word: "mute", op: api.CoMute},
		row{word: "less", op: api.CoLess, keeps: true},
	)
}

func newWraps() table {
	return newTable(
		row{word: "through", op: api.WrThrough},
		row{word: "mask", op: api.WrMask, wants: capabilities{}},
		row{word: "hide", op: api.WrHide},
		row{word: "give", op: api.WrGive, wants: capabilities{}},
		row{word: "retry", op: api.WrRetry, wants: one{span{1, 16}}},
		row{word: "limit", op: api.WrLimit, wants: two{span{1, million}, span{1, million}}},
		row{word: "breaker", op: api.WrBreaker, wants: two{span{1, 1000}, span{1, million}}},
		row{word: "dedup", op: api.WrDedup, wants: one{span{1, 4096}}},
		row{word: "buffer", op: api.WrBuffer, wants: two{span{1, 1000}, span{0, million}}},
		row{word: "filter", op: api.WrFilter, wants: pattern{}},
		row{word: "map", op: api.WrMap, wants: shape{}},
		row{word: "until", op: api.WrUntil, wants: one{span{1, million}}},
	)
}

func newShapes() table {
	return newTable(
		row{word: "double", op: api.MapDouble},
		row{word: "list", op: api.MapList},
		row{word: "unbox", op: api.MapOpen},
		row{word: "size", op: api.MapSize},
		row{word: "name", op: api.MapName},
		row{word: "not", op: api.MapNot},
		row{word: "pair", op: api.MapPair},
		row{word: "key", op: api.MapKey},
	)
}

func newDrops() table {
	return newTable(
		row{word: "new", op: api.DropNew},
		row{word: "old", op: api.DropOld},
		row{word: "none", op: api.DropNone},
	)
}
