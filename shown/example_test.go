package shown

import (
	"testing"

	"conduit/api"
)

func levelsAre(t *testing.T, ch api.Chain, want string) {
	t.Helper()
	if got := texts(Levels(ch)); got != want {
		t.Errorf("%s, not %s", got, want)
	}
}

// The chapter's example 1.
func TestExampleShut(t *testing.T) {
	ch := chain(t, "handler a = echo caps flush, close with mask caps flush with give caps ping;")
	levelsAre(t, ch, "flush close; flush; flush ping")
	if Shown(ch) != set("flush ping") || Who(ch, api.CapFlush) != 0 || Who(ch, api.CapPing) != 2 || Who(ch, api.CapClose) != -1 || Lost(ch) != set("close") || Reach(ch, api.CapClose) != -1 {
		t.Error(text(Shown(ch)), text(Lost(ch)))
	}
}

// The chapter's example 2.
func TestExampleOpen(t *testing.T) {
	ch := chain(t, "handler a = echo caps flush, close with open mask caps flush with open give caps ping;")
	levelsAre(t, ch, "flush close; flush open; flush ping open")
	if Reach(ch, api.CapClose) != 0 || Who(ch, api.CapClose) != -1 || Lost(ch) != 0 {
		t.Error(Reach(ch, api.CapClose), text(Lost(ch)))
	}
}

// The chapter's example 3.
func TestExampleBuffer(t *testing.T) {
	ch := chain(t, "handler a = store caps batch, flush with retry 3;")
	levelsAre(t, ch, "flush batch; flush")
	ch = chain(t, "handler a = store caps batch, flush with retry 3; handler b = of a with buffer 5 9;")
	levelsAre(t, ch, "flush batch; flush; flush batch")
	if Who(ch, api.CapFlush) != 2 || Who(ch, api.CapBatch) != 2 {
		t.Error(Who(ch, api.CapFlush))
	}
}

// The chapter's example 4.
func TestExampleHide(t *testing.T) {
	ch := chain(t, "handler a = count caps save with open hide;")
	levelsAre(t, ch, "save; open")
	if Shown(ch) != set("open") || Reach(ch, api.CapSave) != 0 || Reach(ch, api.CapOpen) != 1 || Who(ch, api.CapSave) != -1 {
		t.Error(Reach(ch, api.CapSave))
	}
}

// The document's examples 3 and 4 of the whole.
func TestExampleOfTheWhole(t *testing.T) {
	ch := chain(t, "handler a = store caps flush, save with mask caps save;")
	if Shown(ch) != set("save") || Reach(ch, api.CapFlush) != -1 {
		t.Error(text(Shown(ch)))
	}
	ch = chain(t, "handler a = store caps flush, save with open mask caps save;")
	if Shown(ch) != set("save open") || Reach(ch, api.CapFlush) != 0 {
		t.Error(text(Shown(ch)))
	}
	ch = chain(t, "handler a = echo with buffer 3 0;")
	if Shown(ch) != set("flush batch") || Who(ch, api.CapFlush) != 1 {
		t.Error(text(Shown(ch)))
	}
}
