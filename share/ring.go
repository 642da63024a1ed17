package share

import "conduit/api"

// link is a member's place in the ring: the first one stands behind the last one, and one alone behind itself.
type link struct{ ahead, behind *member }

type member struct {
	link
	id int
}

// ring is members in the order in which they joined; first is nil if there are none.
type ring struct{ first *member }

// add puts a member at the end, which is the place ahead of the first one.
func (r *ring) add(m *member) {
	if r.first == nil {
		m.link = link{ahead: m, behind: m}
		r.first = m
		return
	}
	m.link = link{ahead: r.first.ahead, behind: r.first}
	m.ahead.behind, m.behind.ahead = m, m
}

// take leaves the member's own links as they are, so that who stood behind it can still be told.
func (r *ring) take(m *member) {
	m.ahead.behind, m.behind.ahead = m.behind, m.ahead
	if r.first == m {
		r.first = m.behind
	}
}

// group is a ring of members, found by their numbers, and whose turn it is; one without members is done with.
type group struct {
	ring
	turn    *member
	members map[int]*member
	text    string
	filter  string
	number  int
}

func (g *group) join(id int) bool {
	if g.members[id] != nil || len(g.members) >= api.MaxGroup {
		return false
	}
	m := &member{id: id}
	g.add(m)
	g.members[id] = m
	if g.turn == nil {
		g.turn = m
	}
	return true
}

func (g *group) leave(id int) bool {
	m := g.members[id]
	if m == nil {
		return false
	}
	delete(g.members, id)
	g.take(m)
	if g.turn == m {
		g.turn = m.behind
	}
	return true
}

// next is whose turn it is; from then on it is the turn of who stands behind.
func (g *group) next() int {
	id := g.turn.id
	g.turn = g.turn.behind
	return id
}
