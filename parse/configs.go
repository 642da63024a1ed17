package parse

import "conduit/api"

// maxNums is how many numbers a wrapper has at most.
const maxNums = 2

// configs reads configurations; the patterns in them are read by what it embeds.
type configs struct {
	patterns
}

func (r *configs) tree() api.Tree {
	var t api.Tree
	for !r.ended() {
		if r.is(api.TokHandler) {
			t.Handlers = append(t.Handlers, r.handler())
		} else {
			t.Routes = append(t.Routes, r.route())
		}
	}
	return t
}

func (r *configs) handler() api.HandlerDecl {
	h := api.HandlerDecl{Pos: r.must(api.TokHandler).Pos}
	h.Name = r.name().Name
	r.must(api.TokIs)
	if r.skip(api.TokOf) {
		h.Of = r.name()
	} else {
		h.Core = r.core()
	}
	for r.skip(api.TokWith) {
		h.Wraps = append(h.Wraps, r.wrap())
	}
	if h.Room = r.skip(api.TokInbox); h.Room {
		h.Inbox = r.must(api.TokNum).Num
		if r.skip(api.TokDrop) {
			h.Drop = r.name()
		}
	}
	h.After = r.namesBehind(api.TokAfter)
	r.must(api.TokSemi)
	return h
}

func (r *configs) core() api.CoreDecl {
	word := r.name()
	c := api.CoreDecl{Word: word.Name, Pos: word.Pos}
	c.Minus = r.skip(api.TokMinus)
	if c.Has = c.Minus || r.is(api.TokNum); c.Has {
		c.Num = r.must(api.TokNum).Num
	}
	c.Caps = r.namesBehind(api.TokCaps)
	return c
}

func (r *configs) wrap() api.WrapDecl {
	var w api.WrapDecl
	w.Open = r.skip(api.TokOpen)
	word := r.name()
	w.Word, w.Pos = word.Name, word.Pos
	if r.skip(api.TokColon) {
		w.Sub = r.name().Name
	}
	for len(w.Nums) < maxNums && r.is(api.TokNum) {
		w.Nums = append(w.Nums, r.must(api.TokNum).Num)
	}
	w.Caps = r.namesBehind(api.TokCaps)
	w.When, w.Want = r.when()
	return w
}

func (r *configs) route() api.RouteDecl {
	d := api.RouteDecl{Pos: r.must(api.TokRoute).Pos}
	filter := r.must(api.TokText)
	d.Filter = api.Use{Name: filter.Text, Pos: filter.Pos}
	if d.Else = r.skip(api.TokElse); !d.Else {
		d.When, d.Want = r.when()
	}
	r.must(api.TokArrow)
	d.To = r.name()
	r.must(api.TokSemi)
	return d
}

// when reads a pattern, if its word stands there.
func (r *configs) when() (bool, api.Want) {
	if !r.skip(api.TokWhen) {
		return false, api.Want{}
	}
	return true, r.want()
}

// namesBehind reads names, if their word stands there.
func (r *configs) namesBehind(word int) []api.Use {
	if !r.skip(word) {
		return nil
	}
	l := []api.Use{r.name()}
	for r.skip(api.TokComma) {
		l = append(l, r.name())
	}
	return l
}
