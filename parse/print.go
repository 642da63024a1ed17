package parse

import (
	"strconv"

	"conduit/api"
	"conduit/scan"
)

// writer puts tokens behind one another, with a blank where one stands between them.
type writer struct {
	out   []byte
	ahead string // the last token of the line; "": it has none
}

func (w *writer) put(tokens ...string) {
	for _, t := range tokens {
		if apart(w.ahead, t) {
			w.out = append(w.out, ' ')
		}
		w.out = append(w.out, t...)
		w.ahead = t
	}
}

// apart tells whether a blank stands between two tokens ("-" stands ahead of numbers alone).
func apart(ahead, behind string) bool {
	switch ahead {
	case "", ":", "(", "!", "-":
		return false
	}
	switch behind {
	case ",", ";", ":", ")":
		return false
	}
	return true
}

func (w *writer) endLine() {
	w.put(";")
	w.out = append(w.out, '\n')
	w.ahead = ""
}

func (w *writer) number(n uint64) { w.put(strconv.FormatUint(n, 10)) }

func (w *writer) handler(h api.HandlerDecl) {
	w.put("handler", h.Name, "=")
	if h.Of.Name != "" {
		w.put("of", h.Of.Name)
	} else {
		w.core(h.Core)
	}
	for _, x := range h.Wraps {
		w.wrap(x)
	}
	if h.Room {
		w.put("inbox")
		w.number(h.Inbox)
	}
	if h.Drop.Name != "" {
		w.put("drop", h.Drop.Name)
	}
	w.names("after", h.After)
	w.endLine()
}

func (w *writer) core(c api.CoreDecl) {
	w.put(c.Word)
	if c.Minus {
		w.put("-")
	}
	if c.Has {
		w.number(c.Num)
	}
	w.names("caps", c.Caps)
}

func (w *writer) wrap(x api.WrapDecl) {
	w.put("with")
	if x.Open {
		w.put("open")
	}
	w.put(x.Word)
	if x.Sub != "" {
		w.put(":", x.Sub)
	}
	for _, n := range x.Nums {
		w.number(n)
	}
	w.names("caps", x.Caps)
	w.when(x.When, x.Want)
}

func (w *writer) route(r api.RouteDecl) {
	w.put("route", scan.Quote(r.Filter.Name))
	w.when(r.When, r.Want)
	if r.Else {
		w.put("else")
	}
	w.put("->", r.To.Name)
	w.endLine()
}

func (w *writer) names(word string, l []api.Use) {
	lead := word
	for _, u := range l {
		w.put(lead, u.Name)
		lead = ","
	}
}

func (w *writer) when(when bool, p api.Want) {
	if when {
		w.put("when")
		w.want(p, 0)
	}
}

// want writes a pattern within one of the Op around (0: none).
func (w *writer) want(p api.Want, around int) {
	in := enclosed(p.Op, around)
	if in {
		w.put("(")
	}
	switch p.Op {
	case api.WNot:
		w.put("!")
		w.want(p.List[0], p.Op)
	case api.WAnd:
		w.row("&", p)
	case api.WOr:
		w.row("|", p)
	default:
		w.put(wordOf(p))
	}
	if in {
		w.put(")")
	}
}

// row writes a pattern's operands with a mark between them.
func (w *writer) row(mark string, p api.Want) {
	for i, q := range p.List {
		if i > 0 {
			w.put(mark)
		}
		w.want(q, p.Op)
	}
}
