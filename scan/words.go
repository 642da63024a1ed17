package scan

import "conduit/api"

// spelt has each word and each mark at its kind; the kinds that are spelt in many ways have none.
var spelt = [api.NumTok]string{
	api.TokAfter: "after", api.TokCaps: "caps", api.TokDrop: "drop", api.TokElse: "else", api.TokHandler: "handler", api.TokInbox: "inbox",
	api.TokOf: "of", api.TokOpen: "open", api.TokRoute: "route", api.TokWhen: "when", api.TokWith: "with",
	api.TokNot: "!", api.TokAnd: "&", api.TokLeft: "(", api.TokRight: ")", api.TokComma: ",", api.TokMinus: "-",
	api.TokArrow: "->", api.TokColon: ":", api.TokSemi: ";", api.TokIs: "=", api.TokOr: "|",
}

// Kind is the kind of a word or a mark; 0: it is none.
func Kind(s string) int {
	for kind := api.TokAfter; kind < api.NumTok; kind++ {
		if spelt[kind] == s {
			return kind
		}
	}
	return 0
}

// Text is a kind's word or mark; "": it has none.
func Text(kind int) string {
	if kind < 0 || kind >= len(spelt) {
		return ""
	}
	return spelt[kind]
}

// class is what a byte can be a part of, where it is not within a text or a comment.
type class uint8

const (
	inNumber class = 1 << iota
	inWord
	blank
)

func classOf(b byte) class {
	var c class
	switch {
	case '0' <= b && b <= '9':
		c = inNumber
		fallthrough
	case 'a' <= b && b <= 'z' || 'A' <= b && b <= 'Z' || b == '_':
		c |= inWord
	case b == ' ' || b == '\t' || b == '\r' || b == '\n':
		c = blank
	}
	return c
}
