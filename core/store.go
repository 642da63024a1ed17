package core

import (
	"conduit/api"
	"conduit/panics"
	"conduit/value"
)

// store keeps bodies, each key once.
type store struct {
	*api.CoreState
	room   int64 // 0: without end
	maker  value.Maker
	places map[any]int
}

func (s *store) Handle(d api.Datum) (answer, error) {
	s.know()
	key := s.maker.Of(d)
	if s.has(key) {
		return answered(whole(int64(s.places[key])))
	}
	place := len(s.List)
	if s.room > 0 && int64(place) >= s.room {
		return answer{}, says(codeFull)
	}
	s.List = append(s.List, value.Copy(d))
	s.places[key] = place
	return answered(whole(int64(place)))
}

// has leaves it to the map to panic of what can't be a key.
func (s *store) has(key any) bool {
	return panics.As(panics.Comparison{}, func() bool {
		_, known := s.places[key]
		return known
	})
}

// know puts what is kept into the map, once: a batch asks it many times, and what handles nothing never.
func (s *store) know() {
	if s.places != nil {
		return
	}
	s.maker, s.places = value.NewSharing(), map[any]int{}
	for i, d := range s.List {
		s.places[s.maker.Of(d)] = i
	}
}

func (s *store) Flush() int {
	n := len(s.List)
	s.List, s.places = nil, nil
	return n
}
