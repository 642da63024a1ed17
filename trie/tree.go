package trie

import (
	"maps"
	"strings"
)

// node is a beginning of filters: the numbers under the one that ends here, and the nodes one level on. As most nodes lack one of the two maps, each is made when it is first needed.
type node struct {
	numbers map[int]struct{}
	below   map[string]*node
}

func (n *node) put(id int) bool {
	if _, ok := n.numbers[id]; ok {
		return false
	}
	if n.numbers == nil {
		n.numbers = map[int]struct{}{}
	}
	n.numbers[id] = struct{}{}
	return true
}

func (n *node) take(id int) bool {
	_, ok := n.numbers[id]
	delete(n.numbers, id)
	return ok
}

func (n *node) extend(level string) *node {
	next := n.below[level]
	if next == nil {
		if n.below == nil {
			n.below = map[string]*node{}
		}
		next = &node{}
		// A level is cut from a whole filter, which is not to be kept for it.
		n.below[strings.Clone(level)] = next
	}
	return next
}

func (n *node) prune(level string) {
	if next := n.below[level]; len(next.numbers) == 0 && len(next.below) == 0 {
		delete(n.below, level)
	}
}

// each goes through all nodes below, in no order; the path is the visitor's for the length of its call only.
func (n *node) each(path []string, visit func(path []string, n *node)) {
	for level, next := range n.below {
		to := append(path, level)
		visit(to, next)
		next.each(to, visit)
	}
}

// place is a node, and the levels that are left to go from it.
type place struct {
	*node
	left []string
}

func (p place) down(level string) (place, bool) {
	next := p.below[level]
	if next == nil {
		return place{}, false
	}
	return place{node: next, left: p.left[1:]}, true
}

// grow is the node at the end of the levels, made with those on the way to it where they are not there.
func (p place) grow() *node {
	n := p.node
	for _, level := range p.left {
		n = n.extend(level)
	}
	return n
}

func (p place) remove(id int) bool {
	if len(p.left) == 0 {
		return p.take(id)
	}
	next, ok := p.down(p.left[0])
	if !ok {
		return false
	}
	// By the time this runs, all below has been pruned.
	defer p.prune(p.left[0])
	return next.remove(id)
}

// search is a place that the levels of a name have led to, and the numbers found so far.
type search struct {
	place
	found map[int]struct{}
}

func (s search) run() {
	// "#" has whatever is left, and also nothing.
	s.gather(s.below["#"])
	if len(s.left) == 0 {
		s.gather(s.node)
		return
	}
	s.through(s.left[0])
	s.through("+")
}

func (s search) through(level string) {
	if next, ok := s.down(level); ok {
		search{place: next, found: s.found}.run()
	}
}

func (s search) gather(n *node) {
	if n != nil {
		maps.Copy(s.found, n.numbers)
	}
}
