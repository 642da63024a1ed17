package value_test

import (
	"testing"

	"conduit/api"
	"conduit/datum"
	"conduit/value"
)

var texts = []string{
	"nil", "-5", "#7", "f7ff0000000000001", "f8000000000000000", `"t"`, `@"n"`, "true", "false", "%00ff", "[]", "[1, [nil]]", `(&nil, ("x", {}))`, `!3"e"`, "&2([1, &2(5)])", "&nil", "{}",
}

func read(t *testing.T, s string) api.Datum {
	t.Helper()
	d, e := datum.Parse(s)
	if e != api.OK {
		t.Fatalf("datum.Parse(%s): %v", s, e)
	}
	return d
}

// What a value stands for comes out of it as it went in.
func TestThereAndBack(t *testing.T) {
	for _, s := range texts {
		d := read(t, s)
		if back := value.Plain(value.Of(d)); !datum.Same(back, d) {
			t.Errorf("%s: %s", s, datum.Print(back))
		}
	}
}

// A kind's own value is of that kind, whatever lies in it; of what is no kind there is none.
func TestOfKind(t *testing.T) {
	for k := range api.NumKinds {
		if got := value.Plain(value.OfKind(k)).Kind; got != k {
			t.Errorf("a value of kind %d is of kind %d", k, got)
		}
	}
	if value.OfKind(-1) != nil || value.OfKind(api.NumKinds) != nil {
		t.Error("what is no kind has a value")
	}
}

// Made to be compared, one number is one pointer; made alone, each is its own.
func TestSharing(t *testing.T) {
	a, b, c := read(t, "&1(5)"), read(t, "&1(6)"), read(t, "&2(5)")
	m := value.NewSharing()
	if m.Of(a) != m.Of(b) || m.Of(a) == m.Of(c) || value.Of(a) == value.Of(a) {
		t.Error("pointers")
	}
}

// A copy is the same, and changes with nothing.
func TestCopy(t *testing.T) {
	for _, s := range texts {
		d := read(t, s)
		c := value.Copy(d)
		if !datum.Same(c, d) {
			t.Errorf("%s: %s", s, datum.Print(c))
		}
		for _, l := range [][]api.Datum{d.List, value.CopyAll(d.List)} {
			for i := range l {
				for j := range l[i].List {
					l[i].List[j] = api.Datum{Kind: api.KName}
				}
				l[i] = api.Datum{Kind: api.KName}
			}
		}
		if !datum.Same(c, read(t, s)) {
			t.Errorf("%s became %s", s, datum.Print(c))
		}
	}
	spare := make([]api.Datum, 3)
	if value.CopyAll(spare[:0]) != nil || value.Copy(api.Datum{List: spare[:0]}).List != nil {
		t.Error("spare room is handed on")
	}
}
