package caps

import (
	"slices"
	"testing"

	"conduit/api"
)

// The chapter's example 1.
func TestExampleTexts(t *testing.T) {
	if got := Text(set(0, 9)); got != "flush until" {
		t.Errorf("%q", got)
	}
	for _, s := range []string{"until flush", "flush  until", " flush"} {
		if c, ok := Parse(s); ok || c != 0 {
			t.Errorf("%q: %v %v", s, c, ok)
		}
	}
	if c, ok := Parse(""); !ok || c != 0 {
		t.Errorf("the empty text: %v %v", c, ok)
	}
}

// The chapter's example 2.
func TestExampleGroups(t *testing.T) {
	if got := Groups(set(api.CapFlush, api.CapClose, api.CapSave, api.CapLoad)); !slices.Equal(got, []int{api.GDrain, api.GKeep}) || !slices.Equal(got, []int{0, 1}) {
		t.Error(got)
	}
	if got := Parts(api.GLasting); got != set(api.CapPing, api.CapReset, api.CapSave, api.CapLoad) {
		t.Error(Text(got))
	}
}

// The chapter's example 3.
func TestExampleProper(t *testing.T) {
	if got := Fix(set(api.CapBatch, api.CapClose, api.CapLoad, api.CapSave)); got != set(api.CapClose, api.CapSave, api.CapLoad) {
		t.Error(Text(got))
	}
	if got := Grow(set(api.CapAck)); got != set(api.CapAck, api.CapUntil) {
		t.Error(Text(got))
	}
	if got := Fix(set(api.CapReset, api.CapAck, api.CapUntil)); got != set(api.CapAck, api.CapUntil) {
		t.Error(Text(got))
	}
}
