package check

import (
	"conduit/api"
	"conduit/caps"
)

// teller says a plan as a tree; of what no tree can say it says less, or what no tree may have.
type teller struct {
	words
	plan api.Plan
}

func treeOf(p api.Plan) api.Tree {
	var t api.Tree
	say := teller{newWords(), p}
	for _, h := range p.Handlers {
		t.Handlers = append(t.Handlers, say.handler(h))
	}
	for _, r := range p.Routes {
		t.Routes = append(t.Routes, say.route(r))
	}
	return t
}

// use is a handler by its name, which is empty, if there is none of that number.
func (say teller) use(n int) api.Use {
	if n < 0 || n >= len(say.plan.Handlers) {
		return api.Use{}
	}
	return api.Use{Name: say.plan.Handlers[n].Name}
}

func (say teller) handler(h api.Named) api.HandlerDecl {
	d := api.HandlerDecl{Name: h.Name, Core: say.core(h.Chain.Core), Room: true, Inbox: uint64(h.Inbox)}
	for _, w := range h.Chain.Wraps {
		d.Wraps = append(d.Wraps, say.wrap(w))
	}
	d.Drop.Name = say.drops.byOp[h.Drop].word
	for _, n := range h.After {
		d.After = append(d.After, say.use(n))
	}
	return d
}

func (say teller) core(c api.Core) api.CoreDecl {
	r := say.cores.byOp[c.Op]
	d := api.CoreDecl{Word: r.word, Caps: usesOf(c.Caps)}
	if d.Has = len(r.ranges()) > 0; d.Has {
		d.Minus, d.Num = c.Num < 0, size(c.Num)
	}
	return d
}

// size is a number without its sign.
func size(n int64) uint64 {
	if n < 0 {
		return -uint64(n)
	}
	return uint64(n)
}

func usesOf(set api.Caps) []api.Use {
	var l []api.Use
	for which := range api.NumCaps {
		if set>>which&1 == 1 {
			l = append(l, api.Use{Name: caps.Word(which)})
		}
	}
	return l
}

func (say teller) wrap(w api.Wrap) api.WrapDecl {
	r := say.wraps.byOp[w.Op]
	d := api.WrapDecl{Open: w.Open, Word: r.word, Caps: usesOf(w.Caps), When: w.Want.Op != 0, Want: w.Want}
	if _, shaped := r.wants.(shape); shaped {
		d.Sub = say.shapes.byOp[int(w.A)].word
	}
	// A number below 0 becomes one that is greater than any that may stand there.
	for _, n := range []int64{w.A, w.B}[:len(r.ranges())] {
		d.Nums = append(d.Nums, uint64(n))
	}
	return d
}

func (say teller) route(r api.Route) api.RouteDecl {
	return api.RouteDecl{Filter: api.Use{Name: r.Filter}, When: r.Want.Op != 0, Want: r.Want, Else: r.Else, To: say.use(r.Handler)}
}
