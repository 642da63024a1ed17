package lint

import (
	"conduit/api"
	"conduit/shown"
	"conduit/topic"
)

// sight is a plan, and what more than one look asks of it.
type sight struct {
	plan  api.Plan
	lets  []kinds // of each route
	dead  []bool  // of each route
	gets  []kinds // of each handler: the kinds that come to it by routes; none, if it is not led to
	shows []api.Caps
}

func sightOf(p api.Plan) *sight {
	s := &sight{plan: p, gets: make([]kinds, len(p.Handlers))}
	for _, r := range p.Routes {
		s.lets = append(s.lets, lets(r))
	}
	for i, r := range p.Routes {
		dead := s.isDead(i)
		s.dead = append(s.dead, dead)
		if !dead && s.has(r.Handler) {
			s.gets[r.Handler] |= s.lets[i]
		}
	}
	for _, h := range p.Handlers {
		s.shows = append(s.shows, shown.Shown(h.Chain))
	}
	return s
}

func (s *sight) has(handler int) bool { return handler >= 0 && handler < len(s.plan.Handlers) }

func (s *sight) isDead(route int) bool {
	return s.lets[route] == noKind || s.plan.Routes[route].Else && s.isTaken(route)
}

// isTaken tells whether a route that is not Else takes whatever this one has.
func (s *sight) isTaken(route int) bool {
	filter := s.plan.Routes[route].Filter
	for i, r := range s.plan.Routes {
		if !r.Else && s.lets[i] == anyKind && topic.Covers(r.Filter, filter) {
			return true
		}
	}
	return false
}
