package parse

import (
	"testing"

	"conduit/api"
)

// The chapter's example 1.
func TestExamplePrinted(t *testing.T) {
	for s, want := range map[string]string{
		`handler a = echo; route "x/#" when text | int & !nil -> a;`:                            "handler a = echo;\nroute \"x/#\" when text | int & !nil -> a;\n",
		"handler b=of a with open retry 3 with mask caps flush,close inbox 5 drop old after a;": "handler b = of a with open retry 3 with mask caps flush, close inbox 5 drop old after a;\n",
	} {
		if got := Print(taken(t, s)); got != want {
			t.Errorf("%s: %s", s, got)
		}
	}
}

// The chapter's example 2.
func TestExampleNumbers(t *testing.T) {
	core := taken(t, "handler a = fail -3 caps flush;").Handlers[0].Core
	if want := (api.CoreDecl{Word: "fail", Has: true, Minus: true, Num: 3, Caps: []api.Use{{Name: "flush", Pos: 25}}, Pos: 12}); !exactly(core, want) {
		t.Error(core)
	}
	wraps := taken(t, "handler a = x with map:double with limit 3 5;").Handlers[0].Wraps
	if want := []api.WrapDecl{{Word: "map", Sub: "double", Pos: 19}, {Word: "limit", Nums: []uint64{3, 5}, Pos: 35}}; !exactly(wraps, want) {
		t.Error(wraps)
	}
	refused(t, "handler a = x with limit 3 5 7;", 29, api.ErrSyntax)
}

// The chapter's example 3.
func TestExampleFaults(t *testing.T) {
	refused(t, `route "a" when foo -> a;`, 15, api.ErrWant)
	refused(t, `route "a" when (text -> a;`, 21, api.ErrSyntax)
	refused(t, "handler of = echo;", 8, api.ErrSyntax)
}

// The chapter's example 4.
func TestExampleWants(t *testing.T) {
	w, ok := Want("int|(text&!(nil | any))")
	if want := op(api.WOr, kind(api.KInt), op(api.WAnd, kind(api.KText), not(op(api.WOr, kind(api.KNil), anything())))); !ok || !exactly(w, want) {
		t.Error(w, ok)
	}
	if s := Text(w); s != "int | text & !(nil | any)" {
		t.Error(s)
	}
	if w, ok := Want("int |"); ok || !exactly(w, api.Want{}) {
		t.Error(w, ok)
	}
	if w, ok := Want("(int)"); !ok || !exactly(w, kind(api.KInt)) || Text(w) != "int" {
		t.Error(w, ok)
	}
}
