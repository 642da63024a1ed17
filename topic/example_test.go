package topic

import "testing"

// The chapter's example 1, and what its section Words says of a/#, # and /#.
func TestExampleMatch(t *testing.T) {
	for f, l := range map[string]struct{ has, not []string }{
		"a/+/c":  {[]string{"a/b/c", "a//c"}, []string{"a/c"}},
		"a/#":    {[]string{"a", "a/b", "a/b/c", "a/"}, nil},
		"+":      {nil, []string{""}},
		"+/+":    {[]string{"/"}, nil},
		"#":      {[]string{"a", "/", "a/b"}, []string{"$sys"}},
		"$sys/#": {[]string{"$sys", "$sys/x"}, nil},
		"+/x":    {nil, []string{"$sys/x"}},
		"/#":     {[]string{"/", "/a", "//"}, []string{""}},
	} {
		for _, n := range l.has {
			if !Match(f, n) {
				t.Errorf("%s has not %q", f, n)
			}
		}
		for _, n := range l.not {
			if Match(f, n) {
				t.Errorf("%s has %q", f, n)
			}
		}
	}
}

// The chapter's example 2.
func TestExampleFilter(t *testing.T) {
	if Filter("a/#/b") || Filter("a+") || !Filter("#") || !Filter("+/#") || Filter("") || Name("a/+") || !Name("/") {
		t.Error("example 2")
	}
}

// The chapter's example 3.
func TestExampleCovers(t *testing.T) {
	for _, c := range [][2]string{{"a/#", "a"}, {"a/#", "a/+"}, {"a/#", "a/b/#"}, {"+/#", "#"}, {"#", "+/#"}, {"/+/#", "/#"}} {
		if !Covers(c[0], c[1]) {
			t.Errorf("%s does not cover %s", c[0], c[1])
		}
	}
	if Covers("a/+", "a/#") || Covers("#", "$sys") {
		t.Error("example 3")
	}
}

// The chapter's example 4.
func TestExampleMeets(t *testing.T) {
	for _, c := range []struct {
		f, g, name string
		meets      bool
	}{
		{"a/+/c", "+/b/#", "a/b/c", true}, {"a/#", "+", "a", true}, {"a", "b", "", false}, {"#", "$x", "", false}, {"+/#", "#/", "", false},
	} {
		if n, ok := Common(c.f, c.g); ok != c.meets || n != c.name || Meets(c.f, c.g) != c.meets {
			t.Errorf("%s, %s: %q, %v", c.f, c.g, n, ok)
		}
	}
	// Which name of one level is free.
	if n, ok := Common("+", "+"); !ok || !Meets("+", "+") || !Name(n) || len(Levels(n)) != 1 || n[0] == '$' {
		t.Errorf("+ and +: %q, %v", n, ok)
	}
}
