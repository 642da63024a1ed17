package lint

import "testing"

const three = "handler a = echo; handler b = echo; handler c = echo; "

// The chapter's example 1.
func TestExampleRoutes(t *testing.T) {
	sees(t, three+`route "a/#" -> a; route "a/b" else -> b; route "c" when text & int -> c;`, "dead 1; dead 2; idle 1; idle 2")
}

// The chapter's example 2.
func TestExampleCaps(t *testing.T) {
	sees(t, `handler a = echo caps close with hide; handler b = echo after a; route "#" -> a; route "#" -> b;`, "nocap 1 of 0 cap 1; lost 0 cap 1")
}

// The chapter's example 3.
func TestExampleFilter(t *testing.T) {
	sees(t, `handler a = echo with filter when int; route "x" when text -> a;`, "refuse 0 of 1")
}

// The eighth of the ten examples of the whole.
func TestExampleOfTheWhole(t *testing.T) {
	const routes = ` route "#" -> a; route "#" -> b;`
	sees(t, "handler b = echo caps close after a; handler a = echo caps close;"+routes, "")
	sees(t, "handler b = echo caps close after a; handler a = echo caps close after b;"+routes, "loop 0; loop 1")
}
