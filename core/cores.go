package core

import (
	"conduit/api"
	"conduit/datum"
	"conduit/panics"
	"conduit/value"
)

// answer is what comes of a call that does not fail, if anything does.
type answer struct {
	has  bool
	body api.Datum
}

func answered(d api.Datum) (answer, error) { return answer{has: true, body: d}, nil }

// handler is a core at work, which all can handle. What only some do by themselves is no method of it, and is found by asking.
type handler interface {
	Handle(d api.Datum) (answer, error)
}

type flusher interface{ Flush() int }

type closer interface{ Close() error }

type pinger interface{ Ping() error }

// Codes that a core says by itself.
const (
	codeFull = 1
	codeAdd  = 2
	codeSize = 3
	codeLess = 4
	codeSave = 5
)

func says(code int64) error { return &value.Failure{Code: code} }

// handlerOf is a core at work on a state.
func handlerOf(co api.Core, st *api.CoreState) handler {
	switch co.Op {
	case api.CoEcho:
		return echo{}
	case api.CoCount:
		return count{st}
	case api.CoStore:
		return &store{CoreState: st, room: co.Num}
	case api.CoSum:
		return sum{st}
	case api.CoSize:
		return size{}
	case api.CoOpen:
		return unbox{}
	case api.CoFail:
		return fail{co.Num}
	case api.CoPanic:
		return panicking{co.Num}
	case api.CoNth:
		return nth{co.Num}
	case api.CoNone:
		return none{}
	case api.CoLess:
		return less{st}
	}
	return mute{}
}

type echo struct{}

func (echo) Handle(d api.Datum) (answer, error) { return answered(value.Copy(d)) }

type count struct{ *api.CoreState }

func (c count) Handle(api.Datum) (answer, error) {
	c.Count = oneMore(c.Count)
	return answered(whole(c.Count))
}

type sum struct{ *api.CoreState }

func (s sum) Handle(d api.Datum) (answer, error) {
	if !datum.Has(d.Kind, api.MAdd) {
		return answer{}, says(codeAdd)
	}
	total := value.Copy(d)
	if s.Count > 0 {
		more, fault := datum.Add(s.Last, d)
		if fault != api.OK {
			panic(panics.Assertion(d.Kind))
		}
		total = more
	}
	s.Last, s.Count = total, oneMore(s.Count)
	return answered(total)
}

type less struct{ *api.CoreState }

func (l less) Handle(d api.Datum) (answer, error) {
	if !datum.Has(d.Kind, api.MLess) {
		return answer{}, says(codeLess)
	}
	is := false
	if l.Count > 0 {
		below, fault := datum.Less(l.Last, d)
		if fault != api.OK {
			panic(panics.Assertion(d.Kind))
		}
		is = below
	}
	l.Last, l.Count = value.Copy(d), oneMore(l.Count)
	return answered(truth(is))
}

type size struct{}

func (size) Handle(d api.Datum) (answer, error) {
	n, fault := datum.Length(d)
	if fault != api.OK {
		return answer{}, says(codeSize)
	}
	return answered(whole(int64(n)))
}

type unbox struct{}

func (unbox) Handle(d api.Datum) (answer, error) { return answered(panics.Open(d)) }

type nth struct{ at int64 }

func (n nth) Handle(d api.Datum) (answer, error) { return answered(panics.Place(d, n.at)) }

type fail struct{ code int64 }

func (f fail) Handle(api.Datum) (answer, error) { return answer{}, says(f.code) }

func (f fail) Close() error { return says(f.code) }

func (f fail) Ping() error { return says(f.code) }

type panicking struct{ num int64 }

func (p panicking) cause() any {
	if p.num < 0 {
		return value.Failure{Code: p.num}
	}
	return panics.Own(p.num)
}

func (p panicking) Handle(api.Datum) (answer, error) { panic(p.cause()) }

func (p panicking) Close() error { panic(p.cause()) }

type none struct{}

// Handle returns an error that is there, but is a nil pointer.
func (none) Handle(api.Datum) (answer, error) {
	var nobody *value.Failure
	return answer{}, nobody
}

type mute struct{}

func (mute) Handle(api.Datum) (answer, error) { return answer{}, nil }
