package errs

import (
	"slices"
	"testing"

	"conduit/api"
	"conduit/datum"
)

// unequal tells whether == of an error and itself is false or panics.
func unequal(e api.Err) bool {
	is, fault := Equal(e, e)
	return !is || fault != api.OK
}

// P35.12: an error is itself, but where == says otherwise.
func TestIsItself(t *testing.T) {
	r := newRandom(4)
	for range 20000 {
		e := some(t, r)
		is, fault := Is(e, e)
		_, broken := Equal(e, e)
		switch {
		case e.Kind == api.EkList:
			if is || fault != api.OK {
				t.Fatalf("%s: %v, %v", show(e), is, fault)
			}
		case broken != api.OK:
			if is || fault != broken {
				t.Fatalf("%s: %v, %v", show(e), is, fault)
			}
		case is == unequal(e) || fault != api.OK:
			t.Fatalf("%s: %v, %v", show(e), is, fault)
		}
	}
	for _, text := range []string{"f7ff8000000000001", "(1, f7ff0000000000001)"} {
		if is, fault := Is(hold(t, text), hold(t, text)); is || fault != api.OK {
			t.Error(text, is, fault)
		}
	}
}

// panicsAhead tells whether == with target panics of one that is walked ahead of the place where a way leads.
func panicsAhead(e, target api.Err, way []int) bool {
	if target.Kind == api.EkList {
		return false
	}
	for _, other := range Walk(e) {
		if slices.Equal(other, way) {
			return false
		}
		if _, fault := Equal(at(e, other), target); fault != api.OK {
			return true
		}
	}
	return false
}

// P35.12: what Is finds in a part, it finds in the whole.
func TestIsOfThePart(t *testing.T) {
	r := newRandom(5)
	found := 0
	for range 8000 {
		e, target := some(t, r), some(t, r)
		if r.IntN(2) == 0 && e.Kind != api.EkNil {
			target = partOf(r, e)
		}
		for _, way := range Walk(e) {
			is, fault := Is(at(e, way), target)
			if !is || fault != api.OK || panicsAhead(e, target, way) {
				continue
			}
			found++
			if is, fault := Is(e, target); !is || fault != api.OK {
				t.Fatalf("%s, %s at %v: %v, %v", show(e), show(target), way, is, fault)
			}
		}
	}
	if found < 3000 {
		t.Error(found)
	}
}

// P35.13: As finds the first of Walk's that it may; nothing, just where none may be.
func TestAsOfTheWalk(t *testing.T) {
	r := newRandom(6)
	for range 5000 {
		e := some(t, r)
		for kind := range api.NumEk {
			said, ok := none, false
			for _, way := range Walk(e) {
				if said, ok = As(alone(at(e, way)), kind); ok {
					break
				}
			}
			got, found := As(e, kind)
			if found != ok || got.Kind != said.Kind || got.Id != said.Id || got.Code != said.Code || got.Text != said.Text || !datum.Same(got.Body, said.Body) {
				t.Fatalf("%s: %d: %s, not %s", show(e), kind, show(got), show(said))
			}
		}
	}
}

// alone is an error without what it wraps.
func alone(e api.Err) api.Err {
	e.List = nil
	return e
}

// P35.13: Is of a Join is true, where it is of one of its parts, and of none ahead it panics.
func TestIsOfAJoin(t *testing.T) {
	r := newRandom(7)
	found := 0
	for range 8000 {
		l, target := randomList(t, r, 3), some(t, r)
		if len(l) > 0 && r.IntN(2) == 0 {
			target = pick(r, l...)
		}
		joined := Join(l, 99)
		for _, e := range l {
			is, fault := Is(e, target)
			if fault != api.OK {
				break
			}
			if is && e.Kind != api.EkNil {
				found++
				if is, fault := Is(joined, target); !is || fault != api.OK {
					t.Fatalf("%s, %s: %v, %v", show(joined), show(target), is, fault)
				}
			}
		}
	}
	if found < 2000 {
		t.Error(found)
	}
}

// P35.14: Unwrap again and again comes to EkNil.
func TestUnwrapEnds(t *testing.T) {
	r := newRandom(8)
	l := []api.Err{chain(p, api.MaxDeep-1, func(e api.Err) api.Err { return like(1, "", nil, e) })}
	for range 3000 {
		l = append(l, some(t, r))
	}
	for _, e := range l {
		steps := 0
		for ; e.Kind != api.EkNil; e = Unwrap(e) {
			steps++
		}
		if steps > api.MaxDeep {
			t.Fatal(steps)
		}
	}
}
