package errs

import (
	"conduit/api"
	"conduit/datum"
)

const (
	hasId = 1 << iota
	hasCode
	hasText
	hasBody
	hasCodes
)

var fields = [api.NumEk]uint8{
	api.EkPlain: hasCode | hasText,
	api.EkPtr:   hasId | hasText,
	api.EkWrap:  hasId | hasText,
	api.EkMany:  hasId,
	api.EkHold:  hasBody,
	api.EkList:  hasCodes,
	api.EkLike:  hasId | hasText | hasCodes,
	api.EkAs:    hasId | hasText | hasCode,
	api.EkTime:  hasCode | hasText,
}

// room is how many more errors may stand in one, and how many more parts of bodies and codes.
type room struct{ errors, items int }

// takes counts down, so that a list that stands in itself, or in very many places, is left as soon as it is too much.
func (r *room) takes(e api.Err, deep int) bool {
	if deep == 0 || r.errors == 0 || !wellFormed(e) || !r.takesItems(e) {
		return false
	}
	r.errors--
	for _, part := range e.List {
		if !r.takes(part, deep-1) {
			return false
		}
	}
	return true
}

func (r *room) takesItems(e api.Err) bool {
	if e.Kind == api.EkHold {
		parts, _ := datum.Parts(e.Body)
		r.items -= parts
	}
	r.items -= len(e.Codes)
	return r.items >= 0
}

// wellFormed tells whether an error's own fields are as they should be, whatever lies in what it wraps.
func wellFormed(e api.Err) bool {
	if e.Kind < 0 || e.Kind >= api.NumEk || strayField(e) || !wrapsAsItMay(e) {
		return false
	}
	if fields[e.Kind]&hasId != 0 && e.Id < 1 {
		return false
	}
	if e.Kind == api.EkTime && (e.Code < 1 || e.Code > 3) {
		return false
	}
	return len(e.Text) <= api.MaxBytes && datum.Valid(e.Body)
}

func strayField(e api.Err) bool {
	has := fields[e.Kind]
	return e.Id != 0 && has&hasId == 0 ||
		e.Code != 0 && has&hasCode == 0 ||
		e.Text != "" && has&hasText == 0 ||
		e.Body.Kind != api.KNil && has&hasBody == 0 ||
		len(e.Codes) != 0 && has&hasCodes == 0
}

func wrapsAsItMay(e api.Err) bool {
	switch e.Kind {
	case api.EkMany:
		return true
	case api.EkWrap:
		return len(e.List) == 1 && e.List[0].Kind != api.EkNil
	case api.EkLike:
		return len(e.List) == 0 || len(e.List) == 1 && e.List[0].Kind != api.EkNil
	}
	return len(e.List) == 0
}
