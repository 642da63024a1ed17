package errs

import (
	"slices"

	"conduit/api"
	"conduit/value"
)

// maker makes errors of plain data, with values in them as values makes them.
type maker struct{ values value.Maker }

// of is the error that stands for e, with all that lies in it.
func of(e api.Err) error { return maker{}.of(e) }

// of is the error that stands for e; of a kind that is none it is nil.
func (m maker) of(e api.Err) error {
	switch e.Kind {
	case api.EkPlain:
		return simple{e.Code, e.Text}
	case api.EkPtr:
		return &pointed{addressOf(e), e.Text}
	case api.EkWrap:
		return &wrapper{addressOf(e), e.Text, m.first(e.List)}
	case api.EkMany:
		return &several{addressOf(e), m.each(e.List)}
	case api.EkHold:
		return holder{m.values.Of(e.Body)}
	case api.EkList:
		return codes(e.Codes)
	case api.EkNoPtr:
		return (*pointed)(nil)
	case api.EkLike:
		return &likes{addressOf(e), e.Text, e.Codes, m.first(e.List)}
	case api.EkAs:
		return &poser{addressOf(e), e.Text, e.Code}
	case api.EkTime:
		return timed{e.Code, e.Text}
	}
	return nil
}

func addressOf(e api.Err) address { return address{e.Kind, e.Id} }

// first is nil where a list has none: of a kind alone an error may be made that wraps nothing.
func (m maker) first(l []api.Err) error {
	if len(l) == 0 {
		return nil
	}
	return m.of(l[0])
}

func (m maker) each(l []api.Err) []error {
	out := make([]error, len(l))
	for i, e := range l {
		out[i] = m.of(e)
	}
	return out
}

// plain is the data that an error stands for, in new memory.
func plain(e error) api.Err {
	switch x := e.(type) {
	case simple:
		return api.Err{Kind: api.EkPlain, Code: x.code, Text: x.words}
	case *pointed:
		return plainPointed(x)
	case *wrapper:
		return api.Err{Kind: api.EkWrap, Id: x.id, Text: x.words, List: plainFirst(x.inside)}
	case *several:
		return api.Err{Kind: api.EkMany, Id: x.id, List: plainEach(x.inside)}
	case holder:
		return api.Err{Kind: api.EkHold, Body: value.Plain(x.inside)}
	case codes:
		return api.Err{Kind: api.EkList, Codes: slices.Clone([]int64(x))}
	case *likes:
		return api.Err{Kind: api.EkLike, Id: x.id, Text: x.words, Codes: slices.Clone(x.codes), List: plainFirst(x.inside)}
	case *poser:
		return api.Err{Kind: api.EkAs, Id: x.id, Text: x.words, Code: x.code}
	case timed:
		return api.Err{Kind: api.EkTime, Code: x.code, Text: x.words}
	}
	return api.Err{}
}

func plainPointed(p *pointed) api.Err {
	if p == nil {
		return api.Err{Kind: api.EkNoPtr}
	}
	return api.Err{Kind: api.EkPtr, Id: p.id, Text: p.words}
}

func plainFirst(e error) []api.Err {
	if e == nil {
		return nil
	}
	return []api.Err{plain(e)}
}

func plainEach(l []error) []api.Err {
	out := make([]api.Err, len(l))
	for i, e := range l {
		out[i] = plain(e)
	}
	return out
}
