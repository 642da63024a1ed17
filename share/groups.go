package share

import (
	"cmp"
	"slices"

	"conduit/trie"
)

// groups is all groups that have a member: by what is subscribed to, and by a number, under which the trie has their filters.
type groups struct {
	named    map[string]*group
	numbered map[int]*group
	filters  *trie.Trie
	last     int
}

func newGroups() *groups {
	return &groups{named: map[string]*group{}, numbered: map[int]*group{}, filters: trie.New()}
}

// open is the group of what is subscribed to, made if it is not there.
func (l *groups) open(text, filter string) *group {
	g := l.named[text]
	if g == nil {
		l.last++
		g = &group{text: text, filter: filter, number: l.last, members: map[int]*member{}}
		l.named[text], l.numbered[g.number] = g, g
		l.filters.Add(filter, g.number)
	}
	return g
}

func (l *groups) closeEmpty(g *group) {
	if len(g.members) > 0 {
		return
	}
	delete(l.named, g.text)
	delete(l.numbered, g.number)
	l.filters.Remove(g.filter, g.number)
}

// having is the groups whose filter has a topic, in the order of what is subscribed to.
func (l *groups) having(topic string) []*group {
	var out []*group
	for _, number := range l.filters.Match(topic) {
		out = append(out, l.numbered[number])
	}
	slices.SortFunc(out, func(a, b *group) int { return cmp.Compare(a.text, b.text) })
	return out
}
