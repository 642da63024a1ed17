package errs

import "iter"

// parts is what an error wraps, nil among it too.
func parts(e error) []error {
	switch x := e.(type) {
	case wrapping:
		return []error{x.Unwrap()}
	case gathering:
		return x.Unwrap()
	}
	return nil
}

// all goes through an error and all in it, each with its way from the first one on, which is good until the next one comes.
func all(e error) iter.Seq2[[]int, error] {
	return func(yield func([]int, error) bool) { each(e, nil, yield) }
}

func each(e error, way []int, yield func([]int, error) bool) bool {
	if e == nil {
		return true
	}
	if !yield(way, e) {
		return false
	}
	for i, part := range parts(e) {
		if !each(part, append(way, i), yield) {
			return false
		}
	}
	return true
}

// pointer is one whose == looks at more than there is of it.
type pointer interface{ self() any }

func self(e error) any {
	if p, ok := e.(pointer); ok {
		return p.self()
	}
	return e
}

// equal is a == b; it panics, where they can't be compared.
func equal(a, b error) bool { return self(a) == self(b) }

// same is what errors.Is does, with == as equal has it.
func same(e, target error) bool {
	if e == nil || target == nil {
		return e == nil && target == nil
	}
	_, list := target.(codes)
	for _, x := range all(e) {
		if !list && equal(x, target) || likens(x, target) {
			return true
		}
	}
	return false
}

// likens tells whether e says of itself that it is target.
func likens(e, target error) bool {
	if x, ok := e.(likening); ok {
		return x.Is(target)
	}
	return false
}
