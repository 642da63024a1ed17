package snap

import (
	"conduit/api"
	"conduit/journal"
	"conduit/packed"
	"conduit/wire"
)

const (
	begin    = "CNDS\x01"
	sumBytes = 4
)

// sealed is a snapshot's bytes, with their sum behind them.
func sealed(b []byte) []byte {
	return packed.AppendFixed(b, uint64(journal.Sum(b)), sumBytes)
}

// writer writes what it goes over behind its bytes.
type writer struct{ bytes []byte }

func (w *writer) signed(n *int64) { w.bytes = packed.AppendSigned(w.bytes, *n) }

func (w *writer) whole(n *int) { w.bytes = packed.AppendSigned(w.bytes, int64(*n)) }

func (w *writer) text(s *string) { w.bytes = packed.AppendText(w.bytes, *s) }

func (w *writer) truth(is *bool) { w.bytes = packed.AppendTruth(w.bytes, *is) }

func (w *writer) value(d *api.Datum) { w.bytes = append(w.bytes, wire.Datum(*d)...) }

func (w *writer) length(there int) int {
	w.bytes = packed.AppendNumber(w.bytes, uint64(there))
	return there
}
