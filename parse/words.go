package parse

import "conduit/api"

// words has the patterns that are spelt by one word.
var words = [1 + api.NumKinds + api.NumFaces]struct {
	word    string
	op, num int
}{
	{"any", api.WAny, 0},
	{"nil", api.WKind, api.KNil},
	{"int", api.WKind, api.KInt},
	{"key", api.WKind, api.KKey},
	{"float", api.WKind, api.KFloat},
	{"text", api.WKind, api.KText},
	{"name", api.WKind, api.KName},
	{"bool", api.WKind, api.KBool},
	{"bytes", api.WKind, api.KBytes},
	{"list", api.WKind, api.KList},
	{"pair", api.WKind, api.KPair},
	{"error", api.WKind, api.KErr},
	{"pointer", api.WKind, api.KPtr},
	{"nopointer", api.WKind, api.KNoPtr},
	{"unit", api.WKind, api.KUnit},
	{"sized", api.WFace, api.FSized},
	{"named", api.WFace, api.FNamed},
	{"failing", api.WFace, api.FFailing},
	{"opening", api.WFace, api.FOpening},
	{"ordered", api.WFace, api.FOrdered},
	{"adding", api.WFace, api.FAdding},
	{"labelled", api.WFace, api.FLabelled},
	{"measured", api.WFace, api.FMeasured},
	{"number", api.WFace, api.FNumber},
	{"whole", api.WFace, api.FWhole},
}

// ofWord is the pattern that a word is; false: it is none.
func ofWord(word string) (api.Want, bool) {
	for _, row := range words {
		if row.word == word {
			return api.Want{Op: row.op, Num: row.num}, true
		}
	}
	return api.Want{}, false
}

// wordOf is the word of a pattern; "": it has none.
func wordOf(w api.Want) string {
	for _, row := range words {
		if row.op == w.Op && row.num == w.Num {
			return row.word
		}
	}
	return ""
}

// enclosed tells whether a pattern's row stands in parentheses within the pattern around it, of the Op around (0: none).
func enclosed(op, around int) bool {
	switch around {
	case api.WOr:
		return op == api.WOr
	case api.WAnd, api.WNot:
		return op == api.WOr || op == api.WAnd
	}
	return false
}
