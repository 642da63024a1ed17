package parse

import (
	"errors"

	"conduit/api"
	"conduit/scan"
)

// errGivenUp is what a text is given up with, from however deep within it.
var errGivenUp = errors.New("the text is given up")

// patterns reads patterns of types, off the tokens of a text.
type patterns struct {
	src    []byte
	tokens []api.Token
	at     int       // the token that comes next
	nest   int       // how many "(" and "!" are open or wait
	fault  api.Fault // why the text was given up
}

// read lets a rule of the grammar read a text, and tells why the text was given up, if it was.
func read(src []byte, rule func(*configs)) (fault api.Fault) {
	tokens, fault := scan.Scan(src)
	if fault.Err != api.OK {
		return fault
	}
	r := &configs{patterns{src: src, tokens: tokens}}
	defer func() {
		switch p := recover(); p {
		case nil:
		case errGivenUp:
			fault = r.fault
		default:
			// Nothing that a text can have: to take it for a fault of the text would hide it.
			panic(p)
		}
	}()
	rule(r)
	return api.Fault{}
}

func (r *patterns) giveUp(pos int, err api.Errno) {
	r.fault = api.Fault{Pos: pos, Err: err}
	panic(errGivenUp)
}

// ended tells whether no token is left.
func (r *patterns) ended() bool { return r.at == len(r.tokens) }

// place is that of the token that comes next, or the text's end.
func (r *patterns) place() int {
	if r.ended() {
		return len(r.src)
	}
	return r.tokens[r.at].Pos
}

// is tells whether a token of a kind comes next.
func (r *patterns) is(kind int) bool {
	return !r.ended() && r.tokens[r.at].Kind == kind
}

// must goes past the token that comes next, which can only be of that kind.
func (r *patterns) must(kind int) api.Token {
	if !r.is(kind) {
		r.giveUp(r.place(), api.ErrSyntax)
	}
	r.at++
	return r.tokens[r.at-1]
}

// skip goes past a token of a kind, if it comes next.
func (r *patterns) skip(kind int) bool {
	if !r.is(kind) {
		return false
	}
	r.at++
	return true
}

// name goes past a name, and tells where it is used.
func (r *patterns) name() api.Use {
	t := r.must(api.TokName)
	return api.Use{Name: string(r.src[t.Pos:t.End]), Pos: t.Pos}
}

// alone reads a pattern that is the whole text.
func (r *patterns) alone() api.Want {
	w := r.want()
	if !r.ended() {
		r.giveUp(r.place(), api.ErrSyntax)
	}
	return w
}

func (r *patterns) want() api.Want { return r.row(api.TokOr, api.WOr, r.both) }

func (r *patterns) both() api.Want { return r.row(api.TokAnd, api.WAnd, r.one) }

// row reads operands with a mark between them; one by itself is no row.
func (r *patterns) row(mark, op int, operand func() api.Want) api.Want {
	first := operand()
	if !r.is(mark) {
		return first
	}
	l := []api.Want{first}
	for r.skip(mark) {
		l = append(l, operand())
	}
	return api.Want{Op: op, List: l}
}

func (r *patterns) one() api.Want {
	switch {
	case r.is(api.TokNot):
		r.deeper()
		w := r.one()
		r.nest--
		return api.Want{Op: api.WNot, List: []api.Want{w}}
	case r.is(api.TokLeft):
		r.deeper()
		w := r.want()
		r.must(api.TokRight)
		r.nest--
		return w
	}
	return r.word()
}

// deeper goes past a "(" or a "!".
func (r *patterns) deeper() {
	if r.nest == api.MaxNest {
		r.giveUp(r.place(), api.ErrDepth)
	}
	r.nest++
	r.at++
}

func (r *patterns) word() api.Want {
	name := r.name()
	w, ok := ofWord(name.Name)
	if !ok {
		r.giveUp(name.Pos, api.ErrWant)
	}
	return w
}
