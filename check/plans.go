package check

import (
	"math"
	"slices"

	"conduit/api"
	"conduit/caps"
	"conduit/topic"
)

// inboxUnsaid is how many wait at most, if nothing is said of it.
const inboxUnsaid = 64

// stateful are the capabilities that only a core with a state may have.
const stateful api.Caps = 1<<api.CapSave | 1<<api.CapLoad

// planner makes a plan, and throws the first fault that it comes to.
type planner struct {
	words
	numbers map[string]int // handlers' numbers by their names
	plan    api.Plan
}

func planOf(t api.Tree) api.Plan {
	p := planner{words: newWords(), numbers: map[string]int{}}
	for _, d := range t.Handlers {
		p.name(d)
	}
	for _, d := range t.Handlers {
		p.plan.Handlers = append(p.plan.Handlers, p.handler(d))
	}
	for _, d := range t.Routes {
		p.plan.Routes = append(p.plan.Routes, p.route(d))
	}
	return p.plan
}

func (p *planner) name(d api.HandlerDecl) {
	_, twice := p.numbers[d.Name]
	refuse(len(p.numbers) == api.MaxHandlers, d.Pos, api.ErrMany)
	refuse(twice, d.Pos, api.ErrTwice)
	p.numbers[d.Name] = len(p.numbers)
}

// find is the number of the handler of a name.
func (p *planner) find(u api.Use) int {
	n, known := p.numbers[u.Name]
	refuse(!known, u.Pos, api.ErrUnknown)
	return n
}

func (p *planner) handler(d api.HandlerDecl) api.Named {
	h := api.Named{Name: d.Name, Chain: p.inner(d)}
	for _, w := range d.Wraps {
		refuse(len(h.Chain.Wraps) == api.MaxWraps, w.Pos, api.ErrMany)
		h.Chain.Wraps = append(h.Chain.Wraps, p.wrap(w))
	}
	h.Inbox = inbox(d)
	h.Drop = p.drop(d.Drop)
	h.After = p.after(d.After)
	return h
}

// inner is the chain that a handler's own wrappers lie around.
func (p *planner) inner(d api.HandlerDecl) api.Chain {
	if d.Of.Name == "" {
		return api.Chain{Core: p.core(d.Core)}
	}
	n := p.find(d.Of)
	refuse(n >= len(p.plan.Handlers), d.Of.Pos, api.ErrUnknown)
	return copyOf(p.plan.Handlers[n].Chain)
}

func (p *planner) core(d api.CoreDecl) api.Core {
	r := p.cores.meaning(d.Word, d.Pos)
	c := api.Core{Op: r.op}
	c.Num = numberOf(r, d)
	c.Caps = setOf(d.Caps)
	refuse(caps.Fix(c.Caps) != c.Caps || !r.keeps && c.Caps&stateful != 0, d.Pos, api.ErrCaps)
	return c
}

func numberOf(r row, d api.CoreDecl) int64 {
	if !d.Has {
		return r.unsaid
	}
	ranges := r.ranges()
	refuse(len(ranges) == 0, d.Pos, api.ErrRange)
	return ranges[0].take(d.Minus, d.Num, d.Pos)
}

// take is the number that is written at pos, which must lie within the span.
func (s span) take(minus bool, size uint64, pos int) int64 {
	n, is := signed(minus, size)
	refuse(!is || n < s.least || n > s.most, pos, api.ErrRange)
	return n
}

// signed is a number of that size, below 0 or not; false: it is no int64.
func signed(minus bool, size uint64) (int64, bool) {
	if minus {
		return -int64(size), size <= 1<<63
	}
	return int64(size), size <= math.MaxInt64
}

// setOf is the capabilities of a row of words, in which each stands once.
func setOf(l []api.Use) api.Caps {
	var set api.Caps
	for _, u := range l {
		which := caps.Number(u.Name)
		refuse(which < 0, u.Pos, api.ErrUnknown)
		refuse(set>>which&1 == 1, u.Pos, api.ErrTwice)
		set |= 1 << which
	}
	return set
}

func (p *planner) wrap(d api.WrapDecl) api.Wrap {
	r := p.wraps.meaning(d.Word, d.Pos)
	w := api.Wrap{Op: r.op, Open: d.Open}
	w.A, w.B = p.numbersOf(r, d)
	w.Caps = setOf(d.Caps)
	_, some := r.wants.(capabilities)
	refuse(some != (w.Caps != 0), d.Pos, api.ErrCaps)
	_, when := r.wants.(pattern)
	refuse(when != d.When, d.Pos, api.ErrRange)
	w.Want = copyOfWant(d.Want)
	return w
}

// numbersOf are what a wrapper's word behind ":" means, or the numbers that stand there.
func (p *planner) numbersOf(r row, d api.WrapDecl) (int64, int64) {
	var n [2]int64
	if _, must := r.wants.(shape); must {
		n[0] = int64(p.shapes.meaning(d.Sub, d.Pos).op)
	} else {
		refuse(d.Sub != "", d.Pos, api.ErrUnknown)
	}
	ranges := r.ranges()
	refuse(len(d.Nums) != len(ranges), d.Pos, api.ErrRange)
	for i, s := range ranges {
		n[i] = s.take(false, d.Nums[i], d.Pos)
	}
	return n[0], n[1]
}

func inbox(d api.HandlerDecl) int {
	if !d.Room {
		return inboxUnsaid
	}
	return int(span{1, api.MaxInbox}.take(false, d.Inbox, d.Pos))
}

func (p *planner) drop(u api.Use) int {
	if u.Name == "" {
		return api.DropNew
	}
	return p.drops.meaning(u.Name, u.Pos).op
}

func (p *planner) after(l []api.Use) []int {
	var after []int
	for _, u := range l {
		n := p.find(u)
		refuse(slices.Contains(after, n), u.Pos, api.ErrTwice)
		after = append(after, n)
	}
	return after
}

func (p *planner) route(d api.RouteDecl) api.Route {
	refuse(len(p.plan.Routes) == api.MaxRoutes, d.Pos, api.ErrMany)
	refuse(!topic.Filter(d.Filter.Name), d.Filter.Pos, api.ErrFilter)
	return api.Route{Filter: d.Filter.Name, Want: copyOfWant(d.Want), Handler: p.find(d.To), Else: d.Else}
}

// copyOf shares no list with the chain, which stays another handler's.
func copyOf(ch api.Chain) api.Chain {
	ch.Wraps = slices.Clone(ch.Wraps)
	for i, w := range ch.Wraps {
		ch.Wraps[i].Want = copyOfWant(w.Want)
	}
	return ch
}

func copyOfWant(w api.Want) api.Want {
	w.List = slices.Clone(w.List)
	for i, p := range w.List {
		w.List[i] = copyOfWant(p)
	}
	return w
}
