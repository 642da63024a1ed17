package errs

import (
	"slices"
	"strconv"
	"strings"

	"conduit/api"
	"conduit/datum"
	"conduit/value"
)

// The errors are these, or pointers to those that have an address.
type (
	simple struct {
		code  int64
		words string
	}
	pointed struct {
		address
		words string
	}
	wrapper struct {
		address
		words  string
		inside error
	}
	several struct {
		address
		inside []error
	}
	holder struct{ inside any }
	codes  []int64
	likes  struct {
		address
		words  string
		codes  codes
		inside error
	}
	poser struct {
		address
		words string
		code  int64
	}
	timed struct {
		code  int64
		words string
	}
)

func (s simple) Error() string { return s.words }

func (s simple) Code() int64 { return s.code }

// Error looks where p points to, and panics, if that is nowhere.
func (p *pointed) Error() string { return p.words }

func (w *wrapper) Error() string { return w.words + ": " + w.inside.Error() }

func (w *wrapper) Unwrap() error { return w.inside }

func (s *several) Error() string {
	var lines []string
	for _, e := range s.inside {
		if e != nil {
			lines = append(lines, e.Error())
		}
	}
	return strings.Join(lines, "\n")
}

func (s *several) Unwrap() []error { return s.inside }

func (h holder) Error() string { return datum.Print(value.Plain(h.inside)) }

func (c codes) Error() string {
	var out []byte
	for i, code := range c {
		if i > 0 {
			out = append(out, ' ')
		}
		out = strconv.AppendInt(out, code, 10)
	}
	return string(out)
}

func (l *likes) Error() string {
	if l.inside == nil {
		return l.words
	}
	return l.words + ": " + l.inside.Error()
}

func (l *likes) Unwrap() error { return l.inside }

// Is tells whether target bears one of the codes.
func (l *likes) Is(target error) bool {
	if t, ok := target.(coded); ok {
		return slices.Contains(l.codes, t.Code())
	}
	return false
}

func (p *poser) Error() string { return p.words }

// As gives p out as a simple error, if one is looked for.
func (p *poser) As(target any) bool {
	if t, ok := target.(*simple); ok {
		*t = simple{p.code, p.words}
		return true
	}
	return false
}

func (t timed) Error() string { return t.words }

func (t timed) Code() int64 { return t.code }

func (t timed) Timeout() bool { return t.code == 1 || t.code == 3 }

func (t timed) Temporary() bool { return t.code == 2 || t.code == 3 }

// address is what a pointer is by ==. Two pointers with one address may be told with unlike things behind them, so that no Go pointer could be both.
type address struct {
	kind int
	id   int64
}

// self is what == looks at.
func (a address) self() any { return a }

// self of a nil pointer is an address that nothing has.
func (p *pointed) self() any {
	if p == nil {
		return address{kind: api.EkNoPtr}
	}
	return p.address
}
