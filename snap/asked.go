package snap

import (
	"conduit/api"
	"conduit/built"
	"conduit/shown"
)

// saver is a handler that can be asked to save.
type saver interface{ save() api.Result }

// handler is one of a bus's: what it is, what it has come to, and what time it is.
type handler struct {
	chain api.Chain
	state api.Built
	now   int64
}

// saving is a handler that shows that it can save.
type saving struct{ handler }

func (h saving) save() api.Result {
	_, _, result := built.Call(h.chain, h.state, api.CapSave, api.Datum{}, h.now, false)
	return result
}

// handlers is how many handlers there are of which there is a state.
func handlers(p api.Plan, st api.Bus) int { return min(len(p.Handlers), len(st.Posts)) }

// handlerAt is a handler as what can be asked of it: of one that is closed, nothing.
func handlerAt(p api.Plan, st api.Bus, h int) any {
	x := handler{p.Handlers[h].Chain, st.Posts[h].Built, st.Now}
	if st.Posts[h].Closed || shown.Shown(x.chain)&(1<<api.CapSave) == 0 {
		return x
	}
	return saving{x}
}
